/-
  Snapshots compared and read (merged text).
-/
import Derived.Test.YtpdpejlcilnafaaGreatDoorSnpC
import Derived.Test.YtpdpejlcilnafaaGreatDoorS4Plain
import Derived.Laws.StructEq
import Derived.BigQuiet
import Derived.Test.YtpdpejlcilnafaaGreatDoorSnpB
import Derived.Test.YtpdpejlcilnafaaGreatDoorSnpA
import Derived.Test.YtpdpejlcilnafaaGreatDoorSnpD
import Derived.Test.YtpdpejlcilnafaaGreatDoorC1Fixed
import Derived.Deep.DeepCutAuto
import Derived.Deep.RegionWith
import Derived.Lib.Strings
import Derived.StillTailTactics
import Derived.Test.YtpdpejlcilnafaaGreatDoorShelf
import Derived.Lib.OthersKept
import Derived.WalkSmall
import Derived.Test.YtpdpejlcilnafaaGreatDoorSnpE
import Derived.Test.YtpdpejlcilnafaaGreatDoorS4Valid
import Derived.Test.YtpdpejlcilnafaaGreatDoorS4Rows
namespace Go.Proofs.YtpdpejlcilnafaaGreatDoor.kit
open Go.ChangeShapes Go.WideShapes Go.ChangeAt Go.RowKit
set_option linter.unusedVariables false
set_option linter.unusedSimpArgs false

set_option maxRecDepth 100000 in
set_option maxHeartbeats 4000000 in
theorem drawSnapshotText (A : Option Addr) (len cap : Nat) (zs : List Int) (w : World) (hc : Code w A len cap zs) :
    Calls Tryz.prog 10 #[.slice A len cap] w fun e w' => ∃ (x y : Int) (u1 u2 : Value) (L : List Int) (M : List Sess), e = .returned (.agg #[.int .i64 x, .int .i64 y, u1, u2]) ∧ L.length ≤ 4194304 ∧ M.length ≤ 4194304 ∧ ObjV w.heap.size w' u1 L ∧ OwnS w.heap.size w' u2 M ∧ Below w.heap.size w w' := by
  have hb0 : Below w.heap.size w (w.alloc (.cells #[.int .i64 0, .int .i64 0, .slice none 0 0, .slice none 0 0] 32)) := (Below.refl _ _).alloc (Nat.le_refl _) _
  have hR := BoxC.new w 32 #[.int .i64 0, .int .i64 0, .slice none 0 0, .slice none 0 0]
  have hc0 := hc.below hb0
  have C1 := Lib.hid (new_any A len cap zs _ hc0.row hc0.low)
  simp only [World.size_alloc] at C1
  go_enter Tryz.func10, Tryz.ntmps10
  go_wp2_with fail
  refine (C1.out).mono ?_
  rintro e w1 ⟨rfl, hcur, hb1⟩
  have hng : w.heap.size ≠ w.heap.size + 1 := by omega
  have hB1 := hb0.trans (hb1.mono (by omega))
  have hR1 := hR.later (by simpa using hb1)
  have C2 := Lib.hid (snap_any (w.heap.size + 1) w1 hcur)
  have hlt := hcur.lt
  clear C1 hc0 hc hb0 hb1 hR
  go_wp2_with fail
  refine (C2.out).mono ?_
  rintro e w2 ⟨x, y, u1, u2, L, M, rfl, _, _, hl1, hl2, ho1, ho2, hd2⟩
  obtain ⟨a1, c1, rfl⟩ := ho1.shape
  obtain ⟨a2, c2, rfl⟩ := ho2.shape
  have hz : w.heap.size ≤ w1.heap.size := Nat.le_of_lt (Nat.lt_trans (Nat.lt_succ_self _) hlt)
  have HR := Lib.hid (hR1.drewn hd2 hng)
  have HB := Lib.hid (drew_below hB1 (Nat.le_succ _) hd2)
  have HO1 := Lib.hid (ho1.mono hz)
  have HO2 := Lib.hid (OwnS.mono ho2 hz)
  clear C2 hd2 ho1 ho2 hB1 hR1 hcur
  have r0 := HR.out.c 0 rfl
  have r1 := HR.out.c 1 rfl
  have r2 := HR.out.c 2 rfl
  have r3 := HR.out.c 3 rfl
  have f0 := HR.out.f 0
  have f1 := HR.out.f 1
  have f2 := HR.out.f 2
  have f3 := HR.out.f 3
  go_wp2_with fail
  refine bodyPost_ret (v := .agg #[.int .i64 x, .int .i64 y, .slice a1 L.length c1, .slice a2 M.length c2]) (by simp [results, Tryz.results10, go_sem, r0, r1, r2, r3]) rfl ?_
  refine ⟨x, y, _, _, L, M, rfl, hl1, hl2, objV_put4 HO1.out HR.out (by decide) _ _ _ _, row_put4 HO2.out HR.out (by decide) _ _ _ _, ?_⟩
  exact (((HB.out.setCell (p := ⟨w.heap.size, 0, none⟩) (Nat.le_refl _) _).setCell (p := ⟨w.heap.size, 1, none⟩) (Nat.le_refl _) _).setCell (p := ⟨w.heap.size, 2, none⟩) (Nat.le_refl _) _).setCell (p := ⟨w.heap.size, 3, none⟩) (Nat.le_refl _) _
end Go.Proofs.YtpdpejlcilnafaaGreatDoor.kit
namespace Go.Proofs.YtpdpejlcilnafaaGreatDoor.kit
open Go.ChangeShapes Go.WideShapes Go.ChangeAt Go.RowKit
set_option linter.unusedVariables false

set_option maxRecDepth 100000 in
theorem neqSess (x y : Sess) (W : World) : Sem.run Tryz.prog (binOp .neq 120 (sessV x) (sessV y)) W = .ok (.bool (!decide (x = y))) W := by
  obtain ⟨c, s, d, v⟩ := x
  obtain ⟨c2, s2, d2, v2⟩ := y
  unfold sessV
  simp only
  have u3 := Tryz.underlying3
  have u4 := Tryz.underlying4
  have hS : Tryz.prog.underlying 120 = some (.struct (Tryz.prog.fieldsOf 120)) := by kernel_rfl
  have hp : Tryz.prog.stoodInHeld 120 = false := by kernel_rfl
  have hS2 : Tryz.prog.underlying 113 = some (.struct (Tryz.prog.fieldsOf 113)) := by kernel_rfl
  have hp2 : Tryz.prog.stoodInHeld 113 = false := by kernel_rfl
  rw [run_neq_struct, show (10000 : Nat) = 9999 + 1 from rfl, run_equalIn_agg W 9999 120 _ _ hS hp]
  have he := fun (w : World) (xs ys : Array Value) => run_equalIn_agg w 9997 113 xs ys hS2 hp2
  simp only [Program.fieldsOf, Tryz.underlying120, Tryz.underlying113] at he ⊢
  clear hS hS2 hp hp2
  have k3 := Tryz.isAgg3
  go_simp
  by_cases h1 : c = c2 <;> by_cases h2 : s = s2 <;> by_cases h3 : d = d2 <;> by_cases h4 : v = v2 <;> simp [h1, h2, h3, h4]
theorem eq_takeI {a b : List Int} {k : Nat} (hl : a.length = b.length) (hk : a.length ≤ k) (h : ∀ j, j < k → a.getD j 0 = b.getD j 0) : a = b := eq_take hl hk h
set_option maxRecDepth 100000 in
theorem slEqualI (a1 a2 : Option Addr) (c1 c2 : Nat) (l1 l2 : List Int) (w : World) (h1 : l1.length ≤ 4194304) (h2 : l2.length ≤ 4194304) (ha1 : At w a1 l1) (ha2 : At w a2 l2) :
    Calls Tryz.prog 75 #[.slice a1 l1.length c1, .slice a2 l2.length c2] w fun e w' => e = .returned (.bool (decide (l1 = l2))) ∧ Drawn w w' := by
  have HA1 := Lib.hid ha1
  have HA2 := Lib.hid ha2
  clear ha1 ha2
  by_cases hn : l1.length = l2.length
  · have g1 : (((l1.length : Nat) : Int) != (l2.length : Nat)) = false := by simp [hn]
    have HN := Lib.hid hn
    clear hn
    go_enter Tryz.func75, Tryz.ntmps75
    go_wp2_with fail
    clear g1
    go_loopw [13] (fun i wr => ∃ k : Nat, k ≤ l1.length ∧ i = .int .i64 k ∧ Hid (∀ j, j < k → l1.getD j 0 = l2.getD j 0) ∧ Hid (Drawn w wr)) (fun i _ => l1.length - (intOf i).toNat)
    case atStart => exact ⟨0, Nat.zero_le _, rfl, Lib.hid (fun j h => by omega), Lib.hid (Drawn.refl _)⟩
    case round =>
      obtain ⟨k, hk, rfl, HE, HQ⟩ := hrel
      by_cases hlt : k < l1.length
      · obtain ⟨x, rfl, _, hc1⟩ := HA1.out k hlt
        have hc1 := HQ.out.cell hc1
        obtain ⟨y, rfl, _, hc2⟩ := HA2.out k (by have := HN.out; omega)
        have hc2 := HQ.out.cell hc2
        have hlt2 : k < l2.length := by have := HN.out; omega
        by_cases hz : l1.getD k 0 = l2.getD k 0
        · rw [← hz] at hc2
          have HE2 := Lib.hid (show ∀ j, j < k + 1 → l1.getD j 0 = l2.getD j 0 from fun j hj => by
            by_cases e : j = k
            · rw [e]; exact hz
            · exact HE.out j (by omega))
          clear hz
          generalize l1.getD k 0 = z1 at *
          go_wp2_with fail
          go_quiet (fail)
          go_wp2_with fail
          go_roundw
          case rel => exact ⟨k + 1, by omega, by go_num, HE2, Lib.hid (HQ.out.more _)⟩
          case measure => simp [intOf]; omega
        · have HF := Lib.hid (show l1 ≠ l2 from fun e => hz (by rw [e]))
          have g2 : (l1.getD k 0 != l2.getD k 0) = true := by rw [bne_iff_ne]; exact hz
          clear hz
          generalize l1.getD k 0 = z1 at *
          generalize l2.getD k 0 = z2 at *
          go_wp2_with fail
          go_quiet (fail)
          go_wp2_with fail
          go_ret
          exact ⟨by rw [decide_eq_false (HF.out)]; rfl, HQ.out.more _⟩
      · have HF := Lib.hid (show l1 = l2 from eq_take HN.out (by omega) HE.out)
        go_wp2_with fail
        go_ret
        exact ⟨by rw [decide_eq_true (HF.out)]; rfl, HQ.out⟩
  · have g1 : (((l1.length : Nat) : Int) != (l2.length : Nat)) = true := by simp; omega
    have HF := Lib.hid (show l1 ≠ l2 from fun e => hn (by rw [e]))
    clear hn
    go_enter Tryz.func75, Tryz.ntmps75
    go_wp2_with fail
    go_ret
    exact ⟨by rw [decide_eq_false (HF.out)]; rfl, Drawn.refl _⟩
set_option maxRecDepth 100000 in
set_option maxHeartbeats 2000000 in
theorem slEqualS (a1 a2 : Option Addr) (c1 c2 : Nat) (l1 l2 : List Sess) (w : World) (h1 : l1.length ≤ 4194304) (h2 : l2.length ≤ 4194304) (ha1 : AtS w a1 l1) (ha2 : AtS w a2 l2) :
    Calls Tryz.prog 76 #[.slice a1 l1.length c1, .slice a2 l2.length c2] w fun e w' => e = .returned (.bool (decide (l1 = l2))) ∧ Drawn w w' := by
  have HA1 := Lib.hid ha1
  have HA2 := Lib.hid ha2
  clear ha1 ha2
  by_cases hn : l1.length = l2.length
  · have g1 : (((l1.length : Nat) : Int) != (l2.length : Nat)) = false := by simp [hn]
    have HN := Lib.hid hn
    clear hn
    go_enter Tryz.func76, Tryz.ntmps76
    go_wp2_with fail
    clear g1
    go_loopw [13] (fun i wr => ∃ k : Nat, k ≤ l1.length ∧ i = .int .i64 k ∧ Hid (∀ j, j < k → sg l1 j = sg l2 j) ∧ Hid (Drawn w wr)) (fun i _ => l1.length - (intOf i).toNat)
    case atStart => exact ⟨0, Nat.zero_le _, rfl, Lib.hid (fun j h => by omega), Lib.hid (Drawn.refl _)⟩
    case round =>
      obtain ⟨k, hk, rfl, HE, HQ⟩ := hrel
      by_cases hlt : k < l1.length
      · skip
        obtain ⟨g, o, rfl, hg, hq1⟩ := HA1.out k hlt
        obtain ⟨q, HQ3⟩ : ∃ q, Hid (wr = w.drewN q) := by obtain ⟨q, e⟩ := HQ.out; exact ⟨q, Lib.hid e⟩
        obtain ⟨c0, c1', c2', c3⟩ : SessAt wr g (o + k * 4) (sg l1 k) := by rw [HQ3.out]; exact hq1.drewN q
        obtain ⟨g', o', rfl, hg', hq2⟩ := HA2.out k (by have := HN.out; omega)
        obtain ⟨d0, d1, d2, d3⟩ : SessAt wr g' (o' + k * 4) (sg l2 k) := by rw [HQ3.out]; exact hq2.drewN q
        have hlt2 : k < l2.length := by have := HN.out; omega
        have heq := fun W => neqSess (sg l1 k) (sg l2 k) W
        clear hq1 hq2 HQ3
        unfold sessV at heq
        obtain ⟨x0, x1, x2, x3, hx⟩ : ∃ c s d v, sg l1 k = (c, s, d, v) := ⟨_, _, _, _, rfl⟩
        obtain ⟨y0, y1, y2, y3, hy⟩ : ∃ c s d v, sg l2 k = (c, s, d, v) := ⟨_, _, _, _, rfl⟩
        by_cases hz : sg l1 k = sg l2 k
        · have HE2 := Lib.hid (show ∀ j, j < k + 1 → sg l1 j = sg l2 j from fun j hj => by
            by_cases e : j = k
            · rw [e]; exact hz
            · exact HE.out j (by omega))
          rw [decide_eq_true hz] at heq
          rw [hx] at c0 c1' c2' c3 heq
          rw [hy] at d0 d1 d2 d3 heq
          simp only at c0 c1' c2' c3 d0 d1 d2 d3 heq
          clear hz hx hy
          go_wp2_with fail
          go_quiet (fail)
          go_wp2_with fail
          go_roundw
          case rel => exact ⟨k + 1, by omega, by go_num, HE2, Lib.hid (HQ.out.more _)⟩
          case measure => simp [intOf]; omega
        · have HF := Lib.hid (show l1 ≠ l2 from fun e => hz (by rw [e]))
          rw [decide_eq_false hz] at heq
          rw [hx] at c0 c1' c2' c3 heq
          rw [hy] at d0 d1 d2 d3 heq
          simp only at c0 c1' c2' c3 d0 d1 d2 d3 heq
          clear hz hx hy
          go_wp2_with fail
          go_quiet (fail)
          go_wp2_with fail
          go_ret
          exact ⟨by rw [decide_eq_false (HF.out)]; rfl, HQ.out.more _⟩
      · have HF := Lib.hid (show l1 = l2 from eq_takeS HN.out (by omega) HE.out)
        go_wp2_with fail
        go_ret
        exact ⟨by rw [decide_eq_true (HF.out)]; rfl, HQ.out⟩
  · have g1 : (((l1.length : Nat) : Int) != (l2.length : Nat)) = true := by simp; omega
    have HF := Lib.hid (show l1 ≠ l2 from fun e => hn (by rw [e]))
    clear hn
    go_enter Tryz.func76, Tryz.ntmps76
    go_wp2_with fail
    go_ret
    exact ⟨by rw [decide_eq_false (HF.out)]; rfl, Drawn.refl _⟩
set_option maxRecDepth 100000 in
set_option maxHeartbeats 4000000 in
theorem implEqualMachinesA (a1 : Option Addr) (c1 : Nat) (L1 : List Int) (a2 : Option Addr) (c2 : Nat) (L2 : List Sess) (b1 : Option Addr) (e1 : Nat) (M1 : List Int) (b2 : Option Addr) (e2 : Nat) (M2 : List Sess) (w : World)
    (h1 : L1.length ≤ 4194304) (h2 : L2.length ≤ 4194304) (k1 : M1.length ≤ 4194304) (k2 : M2.length ≤ 4194304) (ha1 : At w a1 L1) (ha2 : AtS w a2 L2) (hb1 : At w b1 M1) (hb2 : AtS w b2 M2) :
    Calls Tryz.prog 37 #[.agg #[.slice a1 L1.length c1, .slice a2 L2.length c2], .agg #[.slice b1 M1.length e1, .slice b2 M2.length e2]] w fun e w' => e = .returned (.bool (decide (L1 = M1 ∧ L2 = M2))) ∧ Below w.heap.size w w' := by
  obtain ⟨WB, hWB⟩ : ∃ W, W = (w.alloc (.cells #[.slice a1 L1.length c1, .slice a2 L2.length c2] 30)).alloc (.cells #[.slice b1 M1.length e1, .slice b2 M2.length e2] 30) := ⟨_, rfl⟩
  have x0 : WB.cell? ⟨w.heap.size, 0, none⟩ = some (.slice a1 L1.length c1) := by rw [hWB]; go_simp
  have x1 : WB.cell? ⟨w.heap.size, 1, none⟩ = some (.slice a2 L2.length c2) := by rw [hWB]; go_simp
  have y0 : WB.cell? ⟨w.heap.size + 1, 0, none⟩ = some (.slice b1 M1.length e1) := by rw [hWB]; go_simp
  have y1 : WB.cell? ⟨w.heap.size + 1, 1, none⟩ = some (.slice b2 M2.length e2) := by rw [hWB]; go_simp
  have HB := Lib.hid (show Below w.heap.size w WB by rw [hWB]; exact ((Below.refl _ _).alloc (Nat.le_refl _) _).alloc (by simp) _)
  have HW := Lib.hid hWB
  clear hWB
  have j1 := slEqualI a1 b1 c1 e1 L1 M1 WB h1 k1 (ha1.later HB.out) (hb1.later HB.out)
  have j2 := fun q => slEqualS a2 b2 c2 e2 L2 M2 (WB.drewN q) h2 k2 (ha2.later (below_drewN HB.out q)) (hb2.later (below_drewN HB.out q))
  clear ha1 hb1 ha2 hb2
  by_cases hq : L1 = M1
  · rw [decide_eq_true hq] at j1
    by_cases hn : L2 = M2
    · have HF := Lib.hid (show decide (L1 = M1 ∧ L2 = M2) = true from decide_eq_true ⟨hq, hn⟩)
      rw [decide_eq_true hn] at j2
      have J1 := Lib.hid j1
      have J2 := fun q => Lib.hid (j2 q)
      clear j1 j2 hq hn
      go_enter Tryz.func37, Tryz.ntmps37
      go_wp2_with fail
      rw [← HW.out]
      refine J1.out.mono ?_
      rintro e w1 ⟨rfl, q, rfl⟩
      go_wp2_with fail
      refine (J2 q).out.mono ?_
      rintro e w2 ⟨rfl, q2, rfl⟩
      go_wp2_with fail
      go_ret
      exact ⟨by rw [HF.out]; rfl, below_drewN HB.out _⟩
    · have HF := Lib.hid (show decide (L1 = M1 ∧ L2 = M2) = false from decide_eq_false (fun h => hn h.2))
      rw [decide_eq_false hn] at j2
      have J1 := Lib.hid j1
      have J2 := fun q => Lib.hid (j2 q)
      clear j1 j2 hq hn
      go_enter Tryz.func37, Tryz.ntmps37
      go_wp2_with fail
      rw [← HW.out]
      refine J1.out.mono ?_
      rintro e w1 ⟨rfl, q, rfl⟩
      go_wp2_with fail
      refine (J2 q).out.mono ?_
      rintro e w2 ⟨rfl, q2, rfl⟩
      go_wp2_with fail
      go_ret
      exact ⟨by rw [HF.out]; rfl, below_drewN HB.out _⟩
  · have HF := Lib.hid (show decide (L1 = M1 ∧ L2 = M2) = false from decide_eq_false (fun h => hq h.1))
    rw [decide_eq_false hq] at j1
    have J1 := Lib.hid j1
    clear j1 j2 hq
    go_enter Tryz.func37, Tryz.ntmps37
    go_wp2_with fail
    rw [← HW.out]
    refine J1.out.mono ?_
    rintro e w1 ⟨rfl, q, rfl⟩
    go_wp2_with fail
    go_ret
    exact ⟨by rw [HF.out]; rfl, below_drewN HB.out _⟩
theorem implEqualMachines (b1 b2 : Nat) (v1 v2 : Value) (L1 : List Int) (L2 : List Sess) (b3 b4 : Nat) (v3 v4 : Value) (M1 : List Int) (M2 : List Sess) (w : World) (h1 : L1.length ≤ 4194304) (h2 : L2.length ≤ 4194304) (o1 : OwnI b1 w v1 L1) (o2 : OwnS b2 w v2 L2)
    (k1 : M1.length ≤ 4194304) (k2 : M2.length ≤ 4194304) (o3 : OwnI b3 w v3 M1) (o4 : OwnS b4 w v4 M2) :
    Calls Tryz.prog 37 #[.agg #[v1, v2], .agg #[v3, v4]] w fun e w' => e = .returned (.bool (decide (L1 = M1 ∧ L2 = M2))) ∧ Below w.heap.size w w' := by
  obtain ⟨a1, c1, rfl, _, _, t1, _⟩ := o1.form
  obtain ⟨a2, c2, rfl, _, _, t2, _⟩ := o2.form
  obtain ⟨a3, c3, rfl, _, _, t3, _⟩ := o3.form
  obtain ⟨a4, c4, rfl, _, _, t4, _⟩ := o4.form
  exact implEqualMachinesA a1 c1 L1 a2 c2 L2 a3 c3 M1 a4 c4 M2 w h1 h2 k1 k2 t1 t2 t3 t4
end Go.Proofs.YtpdpejlcilnafaaGreatDoor.kit
namespace Go.Proofs.YtpdpejlcilnafaaGreatDoor.kit
open Go.ChangeShapes Go.WideShapes Go.ChangeAt Go.RowKit
set_option linter.unusedVariables false

set_option maxRecDepth 100000 in
theorem implEqualSnapshots (x1 y1 : Int) (b1 b2 : Nat) (v1 v2 : Value) (L1 : List Int) (L2 : List Sess) (x2 y2 : Int) (b3 b4 : Nat) (v3 v4 : Value) (M1 : List Int) (M2 : List Sess) (w : World) (h1 : L1.length ≤ 4194304) (h2 : L2.length ≤ 4194304) (o1 : OwnI b1 w v1 L1) (o2 : OwnS b2 w v2 L2)
    (k1 : M1.length ≤ 4194304) (k2 : M2.length ≤ 4194304) (o3 : OwnI b3 w v3 M1) (o4 : OwnS b4 w v4 M2) :
    Calls Tryz.prog 9 #[.agg #[.int .i64 x1, .int .i64 y1, v1, v2], .agg #[.int .i64 x2, .int .i64 y2, v3, v4]] w fun e w' => e = .returned (.bool (decide (x1 = x2 ∧ y1 = y2 ∧ L1 = M1 ∧ L2 = M2))) ∧ Below w.heap.size w w' := by
  have hB : Below w.heap.size w ((w.alloc (.cells #[.int .i64 x1, .int .i64 y1, v1, v2] 32)).alloc (.cells #[.int .i64 x2, .int .i64 y2, v3, v4] 32)) := by go_grown
  have j := implEqualMachines b1 b2 v1 v2 L1 L2 b3 b4 v3 v4 M1 M2 _ h1 h2 (o1.later hB) (o2.later hB) k1 k2 (o3.later hB) (o4.later hB)
  obtain ⟨a1, c1, rfl⟩ := o1.shape
  obtain ⟨a2, c2, rfl⟩ := o2.shape
  obtain ⟨a3, c3, rfl⟩ := o3.shape
  obtain ⟨a4, c4, rfl⟩ := o4.shape
  have HB := Lib.hid hB
  clear o1 o2 o3 o4 hB
  by_cases e1 : x1 = x2
  · have g1 : (x1 == x2) = true := by rw [e1]; simp
    by_cases e2 : y1 = y2
    · have g2 : (y1 == y2) = true := by rw [e2]; simp
      have HE := Lib.hid (show decide (x1 = x2 ∧ y1 = y2 ∧ L1 = M1 ∧ L2 = M2) = decide (L1 = M1 ∧ L2 = M2) by rw [e1, e2]; simp)
      generalize decide (L1 = M1 ∧ L2 = M2) = q at *
      clear e1 e2
      go_enter Tryz.func9, Tryz.ntmps9
      go_wp2_with fail
      refine j.mono ?_
      rintro e w1 ⟨rfl, hb⟩
      go_wp2_with fail
      go_ret
      exact ⟨by rw [HE.out]; rfl, HB.out.trans (hb.mono HB.out.size)⟩
    · have g2 : (y1 == y2) = false := by rw [beq_eq_false_iff_ne]; exact e2
      have HE := Lib.hid (show decide (x1 = x2 ∧ y1 = y2 ∧ L1 = M1 ∧ L2 = M2) = false from decide_eq_false (fun h => e2 h.2.1))
      clear e1 e2 j
      go_enter Tryz.func9, Tryz.ntmps9
      go_wp2_with fail
      go_ret
      exact ⟨by rw [HE.out]; rfl, HB.out⟩
  · have g1 : (x1 == x2) = false := by rw [beq_eq_false_iff_ne]; exact e1
    have HE := Lib.hid (show decide (x1 = x2 ∧ y1 = y2 ∧ L1 = M1 ∧ L2 = M2) = false from decide_eq_false (fun h => e1 h.1))
    clear e1 j
    go_enter Tryz.func9, Tryz.ntmps9
    go_wp2_with fail
    go_ret
    exact ⟨by rw [HE.out]; rfl, HB.out⟩
end Go.Proofs.YtpdpejlcilnafaaGreatDoor.kit
namespace Go.Proofs.YtpdpejlcilnafaaGreatDoor.kit
set_option linter.unusedVariables false
set_option linter.unusedSimpArgs false

/-! ### a snapshot is read -/
/-- the program's words -/
def wordsN (l : List UInt8) : List (List UInt8) := Lib.splitK [44] 0 2 l
/-- what the specification reads -/
def nx (s : List UInt8) : Int := numL ((cuts 44 s).getD 0 [])
def ny (s : List UInt8) : Int := numL ((cuts 44 s).getD 1 [])
def nO (s : List UInt8) : List Int := parMO ((cuts 44 s).getD 2 [])
def nX (s : List UInt8) : List Sess := parMX ((cuts 44 s).getD 2 [])
def okPN (s : List UInt8) : Prop := (cuts 44 s).length = 3 ∧ fmtN (nx s) (ny s) (nO s) (nX s) = s
instance (s : List UInt8) : Decidable (okPN s) := inferInstanceAs (Decidable (_ ∧ _))
/-- ParseSnapshot's results -/
def parNok (s : List UInt8) : Bool := decide (okPN s)
def parNx (s : List UInt8) : Int := if okPN s then nx s else 0
def parNy (s : List UInt8) : Int := if okPN s then ny s else 0
def parNO (s : List UInt8) : List Int := if okPN s then nO s else []
def parNX (s : List UInt8) : List Sess := if okPN s then nX s else []
theorem parNO_len (s : List UInt8) : (parNO s).length ≤ 4194304 := by
  unfold parNO
  split
  · exact parMO_len _
  · simp
theorem parNX_len (s : List UInt8) : (parNX s).length ≤ 4194304 := by
  unfold parNX
  split
  · exact parMX_len _
  · simp
theorem parN_yes {s : List UInt8} (h : okPN s) : parNok s = true ∧ parNx s = nx s ∧ parNy s = ny s ∧ parNO s = nO s ∧ parNX s = nX s :=
  ⟨decide_eq_true h, if_pos h, if_pos h, if_pos h, if_pos h⟩
theorem parN_no {s : List UInt8} (h : ¬ okPN s) : parNok s = false ∧ parNx s = 0 ∧ parNy s = 0 ∧ parNO s = [] ∧ parNX s = [] :=
  ⟨decide_eq_false h, if_neg h, if_neg h, if_neg h, if_neg h⟩
theorem fmtN_join {x y : Int} {L1 : List Int} {L2 : List Sess} (h : NOk x y L1 L2) : fmtN x y L1 L2 = joinX 44 [Lib.itoa x, Lib.itoa y, fmtM L1 L2] := by
  unfold fmtN
  rw [if_pos h]
  simp [joinX]
theorem wordsN_no {x y : Int} {L1 : List Int} {L2 : List Sess} (h : NOk x y L1 L2) : ∀ p ∈ [Lib.itoa x, Lib.itoa y, fmtM L1 L2], (44 : UInt8) ∉ p := fun p hp => by
  obtain ⟨hx, hy, hm⟩ := h
  simp only [List.mem_cons, List.not_mem_nil, or_false] at hp
  rcases hp with rfl | rfl | rfl
  · exact itoa_no (by omega) (by decide)
  · exact itoa_no (by omega) (by decide)
  · exact fmtM_no hm
/-- the program's parts are right -/
def goodN (ws : List (List UInt8)) : Prop := ws.length = 3 ∧ allPar (ws.take 2) = true ∧ parMok (ws.getD 2 []) = true ∧ NOk (parN (ws.getD 0 [])) (parN (ws.getD 1 [])) (parMO (ws.getD 2 [])) (parMX (ws.getD 2 []))
theorem snap_yes {s : List UInt8} (h : goodN (wordsN s)) : okPN s ∧ nx s = parN ((wordsN s).getD 0 []) ∧ ny s = parN ((wordsN s).getD 1 []) ∧ nO s = parMO ((wordsN s).getD 2 []) ∧ nX s = parMX ((wordsN s).getD 2 []) := by
  have hj := join_split 44 2 s
  have hw : wordsN s = Lib.splitK [44] 0 2 s := rfl
  rw [← hw] at hj
  clear hw
  match hps : wordsN s, h with
  | [p0, p1, p2], ⟨_, ha, h2, hc⟩ =>
    rw [hps] at hj
    simp only [List.take_succ_cons, List.take_zero, allPar, List.all_cons, List.all_nil, Bool.and_true, Bool.and_eq_true, List.getD_cons_zero, List.getD_cons_succ] at ha h2 hc ⊢
    have hx := hc.1
    have hy := hc.2.1
    have f0 := itoa_par ha.1
    have f1 := itoa_par ha.2
    have f2 := mach_write h2
    have hno := wordsN_no hc
    rw [f0, f1, f2] at hno
    have hcut : cuts 44 s = [p0, p1, p2] := by rw [← hj]; exact cuts_join (by simp) hno
    have e0 : nx s = parN p0 := by unfold nx numL; rw [hcut]; simp only [List.getD_cons_zero]; rw [ha.1, decide_eq_true (show 0 ≤ parN p0 by omega)]; rfl
    have e1 : ny s = parN p1 := by unfold ny numL; rw [hcut]; simp only [List.getD_cons_zero, List.getD_cons_succ]; rw [ha.2, decide_eq_true (show 0 ≤ parN p1 by omega)]; rfl
    have e2 : nO s = parMO p2 := by unfold nO; rw [hcut]; rfl
    have e3 : nX s = parMX p2 := by unfold nX; rw [hcut]; rfl
    refine ⟨⟨by rw [hcut]; rfl, ?_⟩, e0, e1, e2, e3⟩
    rw [e0, e1, e2, e3, fmtN_join hc, f0, f1, f2, hj]
theorem snap_no {s : List UInt8} (h : ¬ goodN (wordsN s)) : ¬ okPN s := fun ⟨hl, hf⟩ => by
  apply h
  by_cases hc : NOk (nx s) (ny s) (nO s) (nX s)
  · have hno := wordsN_no hc
    have hx := hc.1
    have hy := hc.2.1
    have hm := hc.2.2
    rw [fmtN_join hc] at hf
    have hw : wordsN s = [Lib.itoa (nx s), Lib.itoa (ny s), fmtM (nO s) (nX s)] := by
      unfold wordsN
      conv => lhs; rw [← hf]
      exact split_join (by simp) hno (by simp)
    have p0 := par_itoa (n := nx s) (by omega) (by omega)
    have p1 := par_itoa (n := ny s) (by omega) (by omega)
    have p2 := mach_back hm
    rw [hw]
    refine ⟨rfl, ?_, ?_, ?_⟩
    · simp [allPar, p0.1, p1.1]
    · simp only [List.getD_cons_zero, List.getD_cons_succ]; exact p2.1
    · simp only [List.getD_cons_zero, List.getD_cons_succ]; rw [p0.2, p1.2, p2.2.1, p2.2.2]; exact ⟨hx, hy, hm⟩
  · exfalso
    have he : s = [] := by
      rw [← hf]
      unfold fmtN
      rw [if_neg hc]
    rw [he] at hl
    simp [cuts] at hl
/-- a snapshot is read back -/
theorem snap_back {x y : Int} {L1 : List Int} {L2 : List Sess} (h : NOk x y L1 L2) : parNok (fmtN x y L1 L2) = true ∧ parNx (fmtN x y L1 L2) = x ∧ parNy (fmtN x y L1 L2) = y ∧ parNO (fmtN x y L1 L2) = L1 ∧ parNX (fmtN x y L1 L2) = L2 := by
  have hno := wordsN_no h
  have hx := h.1
  have hy := h.2.1
  have hm := h.2.2
  have hw : wordsN (fmtN x y L1 L2) = [Lib.itoa x, Lib.itoa y, fmtM L1 L2] := by
    unfold wordsN
    rw [fmtN_join h]
    exact split_join (by simp) hno (by simp)
  have p0 := par_itoa (n := x) (by omega) (by omega)
  have p1 := par_itoa (n := y) (by omega) (by omega)
  have p2 := mach_back hm
  have hg : goodN (wordsN (fmtN x y L1 L2)) := by
    rw [hw]
    refine ⟨rfl, ?_, ?_, ?_⟩
    · simp [allPar, p0.1, p1.1]
    · simp only [List.getD_cons_zero, List.getD_cons_succ]; exact p2.1
    · simp only [List.getD_cons_zero, List.getD_cons_succ]; rw [p0.2, p1.2, p2.2.1, p2.2.2]; exact ⟨hx, hy, hm⟩
  obtain ⟨h1, e0, e1, e2, e3⟩ := snap_yes hg
  obtain ⟨r, r0, r1, r2, r3⟩ := parN_yes h1
  rw [hw] at e0 e1 e2 e3
  simp only [List.getD_cons_zero, List.getD_cons_succ] at e0 e1 e2 e3
  exact ⟨r, by rw [r0, e0, p0.2], by rw [r1, e1, p1.2], by rw [r2, e2, p2.2.1], by rw [r3, e3, p2.2.2]⟩
theorem snap_none : parNok [] = false := decide_eq_false (fun h => by have := h.1; simp [cuts] at this)
end Go.Proofs.YtpdpejlcilnafaaGreatDoor.kit
namespace Go.Proofs.YtpdpejlcilnafaaGreatDoor.kit
open Go.ChangeShapes Go.WideShapes Go.ChangeAt Go.RowKit
set_option linter.unusedVariables false

/-- a half's digit -/
def hexc (k : Nat) : UInt8 := if k < 10 then UInt8.ofNat (48 + k) else UInt8.ofNat (87 + k)
def hexB (b : UInt8) : List UInt8 := [hexc (b.toNat / 16), hexc (b.toNat % 16)]
def encH (l : List UInt8) : List UInt8 := l.flatMap hexB
theorem encH_snoc (l : List UInt8) (b : UInt8) : encH (l ++ [b]) = encH l ++ hexB b := by simp [encH]
theorem encH_length (l : List UInt8) : (encH l).length = 2 * l.length := by
  induction l with
  | nil => rfl
  | cons b l ih =>
    have : encH (b :: l) = hexB b ++ encH l := by simp [encH]
    rw [this, List.length_append, ih]
    simp [hexB]; omega
def hexStr : ByteArray := { data := #[48, 49, 50, 51, 52, 53, 54, 55, 56, 57, 97, 98, 99, 100, 101, 102] }
theorem hexStr_at : ∀ (k : Nat) (h : k < 16), hexStr[k]? = some (hexc k) := by decide +kernel

theorem hexStr_get {k : Nat} (h : k < hexStr.size) : hexStr[k] = hexc k := by
  have := hexStr_at k h
  rw [ByteArray.getElem?_lt' _ _ h] at this
  exact Option.some.inj this
end Go.Proofs.YtpdpejlcilnafaaGreatDoor.kit
namespace Go.Proofs.YtpdpejlcilnafaaGreatDoor.kit
open Go.ChangeShapes Go.WideShapes Go.ChangeAt Go.RowKit
set_option linter.unusedVariables false

/-- a digit's value, or 16 -/
def hval (n : Nat) : Nat := if 48 ≤ n ∧ n ≤ 57 then n - 48 else if 97 ≤ n ∧ n ≤ 102 then n - 87 else 16
/-- .. as Go tells it: -1 for none -/
def hvi (n : Nat) : Int := if hval n < 16 then (hval n : Int) else -1
theorem hexc_hval : ∀ k : Nat, k < 16 → hval (hexc k).toNat = k := by decide +kernel
theorem hval_hexc (b : UInt8) (h : hval b.toNat < 16) : hexc (hval b.toNat) = b := by
  have h1 : ∀ n : Nat, n < 256 → hval n < 16 → hexc (hval n) = UInt8.ofNat n := by decide +kernel
  have := h1 b.toNat b.toNat_lt h
  rw [this, UInt8.ofNat_toNat]
theorem hexc_ne (b : UInt8) {k : Nat} (hk : k < 16) (h : hval b.toNat ≠ k) : hexc k ≠ b := by
  intro e
  subst e
  exact h (hexc_hval k hk)
theorem hval_le (n : Nat) : hval n ≤ 16 := by unfold hval; split <;> (try split) <;> omega
theorem hval_big {n : Nat} (h : 128 ≤ n) : hval n = 16 := by unfold hval; rw [if_neg (by omega), if_neg (by omega)]
def good (l : List UInt8) : Bool := l.all fun b => decide (hval b.toNat < 16)
/-- the bytes that pairs of digits stand for -/
def dec : List UInt8 → List UInt8
  | a :: b :: r => UInt8.ofNat (16 * hval a.toNat + hval b.toNat) :: dec r
  | _ => []
theorem dec_two : ∀ (l : List UInt8) (a b : UInt8), l.length % 2 = 0 → dec (l ++ [a, b]) = dec l ++ [UInt8.ofNat (16 * hval a.toNat + hval b.toNat)]
  | [], a, b, _ => rfl
  | [x], a, b, h => by simp at h
  | x :: y :: r, a, b, h => by
    simp only [List.cons_append, dec]
    rw [dec_two r a b (by simp at h; omega)]
theorem dec_one : ∀ (l : List UInt8) (a : UInt8), l.length % 2 = 0 → dec (l ++ [a]) = dec l
  | [], a, _ => rfl
  | [x], a, h => by simp at h
  | x :: y :: r, a, h => by
    simp only [List.cons_append, dec]
    rw [dec_one r a (by simp at h; omega)]
theorem dec_length : ∀ l : List UInt8, (dec l).length ≤ l.length
  | [] => by simp [dec]
  | [x] => by simp [dec]
  | x :: y :: r => by
    have := dec_length r
    simp only [dec, List.length_cons]; omega
def decHok (l : List UInt8) : Bool := decide (l.length % 2 = 0) && good l
def decHs (l : List UInt8) : List UInt8 := if decHok l then dec l else []
theorem good_take {l : List UInt8} {k : Nat} (h : good (l.take k) = false) : good l = false := by
  rw [← List.take_append_drop k l]
  unfold good at h ⊢
  rw [List.all_append, h]; rfl
theorem good_snoc (l : List UInt8) (b : UInt8) : good (l ++ [b]) = (good l && decide (hval b.toNat < 16)) := by simp [good]

theorem decH_odd {l : List UInt8} (h : l.length % 2 = 1) : decHok l = false ∧ decHs l = [] := by
  have : decHok l = false := by unfold decHok; rw [decide_eq_false (by omega)]; rfl
  exact ⟨this, by unfold decHs; rw [this]; rfl⟩
theorem decH_bad {l : List UInt8} (h : good l = false) : decHok l = false ∧ decHs l = [] := by
  have : decHok l = false := by unfold decHok; rw [h, Bool.and_false]
  exact ⟨this, by unfold decHs; rw [this]; rfl⟩
theorem decH_good {l : List UInt8} (h : l.length % 2 = 0) (hg : good l = true) : decHok l = true ∧ decHs l = dec l := by
  have : decHok l = true := by unfold decHok; rw [hg, decide_eq_true h]; rfl
  exact ⟨this, by unfold decHs; rw [this]; rfl⟩
theorem hvi_neg {n : Nat} (h : ¬ hval n < 16) : hvi n = -1 := by unfold hvi; rw [if_neg h]
theorem hvi_pos {n : Nat} (h : hval n < 16) : hvi n = hval n := by unfold hvi; rw [if_pos h]
end Go.Proofs.YtpdpejlcilnafaaGreatDoor.kit
namespace Go.Proofs.YtpdpejlcilnafaaGreatDoor.kit
open Go.ChangeShapes Go.WideShapes Go.ChangeAt Go.RowKit
set_option linter.unusedVariables false

theorem hexStr_low : ∀ (k : Nat), k < 16 → ∃ b : UInt8, hexStr[k]? = some b ∧ b.toNat < 128 := fun k hk => ⟨_, hexStr_at k hk, by revert k; decide +kernel⟩
set_option maxRecDepth 100000 in
theorem indexRune_bad (r : Int) (w : World) (h : 128 ≤ r) (h2 : Lib.validRune r = false) (h3 : (r == 65533) = false) :
    Calls Tryz.prog 136 #[.string hexStr, .int .i32 r] w fun e w' => e = .returned (.int .i64 (-1)) ∧ Below w.heap.size w w' := by
  have c1 := Lib.hid (Tryz.utf8_ValidRune r)
  rw [h2] at c1
  have HV := Lib.hid h2
  clear h2
  go_enter Tryz.func136, Tryz.ntmps136
  go_wp2_with (go_at_call 156; refine ((c1.out) _).mono ?_; rintro e w' ⟨rfl, rfl⟩)
  go_ret
  exact ⟨rfl, Below.refl _ _⟩
theorem hex_at {pos : Nat} (hp : pos < hexStr.size) : (hexStr[pos]'hp).toNat < 128 := by
  obtain ⟨b, hb, hlt⟩ := hexStr_low pos hp
  rw [ByteArray.getElem?_lt' _ _ hp] at hb
  rw [Option.some.inj hb]; exact hlt
set_option maxRecDepth 100000 in
theorem indexRune_err (w : World) :
    Calls Tryz.prog 136 #[.string hexStr, .int .i32 65533] w fun e w' => e = .returned (.int .i64 (-1)) ∧ Below w.heap.size w w' := by
  go_enter Tryz.func136, Tryz.ntmps136
  go_wp2_with fail
  go_loopw [5, 6] (fun _ _ wr => ∃ pos : Nat, wr = w.iter hexStr pos) (fun _ _ wr => hexStr.size - wr.iterPos w.heap.size)
  case atStart => exact ⟨0, rfl⟩
  case round =>
    obtain ⟨pos, rfl⟩ := hrel
    by_cases hp : pos < hexStr.size
    · have hlt := hex_at hp
      have hnx : ∀ ty, (Instr.next (.pointer (some ⟨w.heap.size, 0, none⟩)) true ty).run Tryz.prog (w.iter hexStr pos) = _ := fun ty => run_next_ascii w hexStr pos ty hp hlt
      have g1 : (((hexStr[pos]'hp).toNat : Int) == 65533) = false := by rw [beq_eq_false_iff_ne]; omega
      go_wp2_with fail
      go_roundw
      case rel => exact ⟨pos + 1, rfl⟩
      case measure => simp; omega
    · have hnx : ∀ ty, (Instr.next (.pointer (some ⟨w.heap.size, 0, none⟩)) true ty).run Tryz.prog (w.iter hexStr pos) = _ := fun ty => run_next_end w hexStr pos ty hp
      go_wp2_with fail
      go_ret
      exact ⟨rfl, (Below.refl _ _).alloc (Nat.le_refl _) _⟩
theorem indexByte_none : ∀ (l : List UInt8) (c : UInt8), (∀ b ∈ l, b ≠ c) → Lib.indexByte l c = -1
  | [], _, _ => rfl
  | b :: l, c, h => by
    have h1 : (b == c) = false := by simpa using h b (by simp)
    have h2 := indexByte_none l c (fun x hx => h x (by simp [hx]))
    simp [Lib.indexByte, h1, h2]
theorem hex_bytes : ∀ b ∈ hexStr.data.toList, b.toNat < 128 := by decide +kernel
set_option maxRecDepth 100000 in
theorem indexRune_wide (r : Int) (w : World) (h : 128 ≤ r) (h2 : Lib.validRune r = true) (h3 : (r == 65533) = false) :
    Calls Tryz.prog 136 #[.string hexStr, .int .i32 r] w fun e w' => e = .returned (.int .i64 (-1)) ∧ Below w.heap.size w w' := by
  have c1 := Lib.hid (Tryz.utf8_ValidRune r)
  rw [h2] at c1
  have hf := encode_facts r (by rw [Go.validRune_eq]; unfold Go.validRune; unfold Lib.validRune at h2; simpa using h2) h
  have HV := Lib.hid h2
  clear h2
  obtain ⟨t, ht⟩ : ∃ t, t = Utf8.encode r := ⟨_, rfl⟩
  rw [← ht] at hf
  obtain ⟨h4, h5, h6⟩ := hf
  have HT := Lib.hid ht.symm
  have h7 := h6 (by omega)
  clear h6
  obtain ⟨L, hL⟩ : ∃ L, t.size = L + 1 := ⟨t.size - 1, by omega⟩
  have q6 : L < t.size := by omega
  have h8 : 128 ≤ (t[L]'q6).toNat := by
    have e : t.size - 1 = L := by omega
    simpa only [e] using h7
  clear h7
  have q4 : L < hexStr.size := by show L < 16; omega
  have q5 := hex_at q4
  have q41 : (L : Int) < (hexStr.size : Int) := by omega
  have q42 : (L : Int) < (t.size : Int) := by omega
  have henc : ∀ W : World, (convert 21 9 (.int .i32 r)).run Tryz.prog W = .ok (.string t) W := fun W => by
    rw [← HT.out]
    exact run_convert_int_string W _ _ _ _ (by kernel_rfl) Tryz.underlying9
  clear ht
  go_enter Tryz.func136, Tryz.ntmps136
  go_wp2_with (go_at_call 156; refine ((c1.out) _).mono ?_; rintro e w' ⟨rfl, rfl⟩)
  go_step3
  go_wp2_with fail
  refine wp_loop_rounds 1 ?_
  rw [rounds_succ]
  have g1 : (((hexStr[L]'q4).toNat : Int) == (t[L]'q6).toNat) = false := by rw [beq_eq_false_iff_ne]; omega
  have g2 : (((hexStr[L]'q4).toNat : Int) != (t[L]'q6).toNat) = true := by rw [bne_iff_ne]; omega
  go_wp2_with fail
  go_step3
  go_wp2_with fail
  have HL := Lib.hid hL
  clear hL
  go_quiet (fail)
  go_wp2_with fail
  have c3 : ∀ W, Calls Tryz.prog 155 #[.string (hexStr.extract (L + 1) hexStr.size), .int .u8 ((t[L]'q6).toNat : Int)] W fun e w' => e = .returned (.int .i64 (-1)) ∧ w' = W := fun W => by
    have h := Tryz.strings_IndexByte (hexStr.extract (L + 1) hexStr.size) ((t[L]'q6).toNat : Int) W
    rw [indexByte_none] at h
    · exact h
    · intro b hb hbc
      have := hex_bytes b (mem_extract hb)
      have e : ((t[L]'q6).toNat : Int).toNat.toUInt8 = t[L]'q6 := by simp
      rw [e] at hbc
      subst hbc
      omega
  have C3 := fun W => Lib.hid (c3 W)
  clear c3
  have q11 : (L : Int) + 1 ≤ (hexStr.size : Int) := by omega
  have q12 : (0 : Int) ≤ (L : Int) + 1 := by omega
  have q13 : ((L : Int) + 1).toNat = L + 1 := by omega
  have q14 : IntKind.i64.wrap ((L : Int) + 1) = (L : Int) + 1 := IntWalk.i64_in _ (by have : hexStr.size = 16 := rfl; omega)
  go_region_with (go_at_call 155; refine ((C3 _).out).mono ?_; rintro e w' ⟨rfl, rfl⟩)
  clear q11 q12 q13 q14
  go_wp2_with fail
  rw [Exit.noGoto_ret]
  go_simp
  go_ret
  exact ⟨rfl, below_drewN (Below.refl _ _) _⟩
theorem indexByte_hex : ∀ n : Nat, n < 128 → Lib.indexByte hexStr.data.toList (UInt8.ofNat n) = hvi n := by decide +kernel
/-- the digit's value for every rune from 0 on: -1 where the rune is no digit -/
theorem indexRune_hex (r : Nat) (w : World) (h : r ≤ 2147483647) :
    Calls Tryz.prog 136 #[.string hexStr, .int .i32 r] w fun e w' => e = .returned (.int .i64 (hvi r)) ∧ Below w.heap.size w w' := by
  by_cases h1 : r < 128
  · refine (Tryz.strings_IndexRune_ascii hexStr r w (by omega) (by omega)).mono ?_
    rintro e w' ⟨rfl, rfl⟩
    refine ⟨?_, Below.refl _ _⟩
    have e : ((r : Int)).toNat.toUInt8 = UInt8.ofNat r := rfl
    rw [e, indexByte_hex r h1]
  · have e : hvi r = -1 := hvi_neg (by rw [hval_big (by omega)]; omega)
    rw [e]
    by_cases h2 : r = 65533
    · subst h2; exact indexRune_err w
    · have h3 : ((r : Int) == 65533) = false := by rw [beq_eq_false_iff_ne]; omega
      cases hv : Lib.validRune r with
      | true => exact indexRune_wide r w (by omega) hv h3
      | false => exact indexRune_bad r w (by omega) hv h3
end Go.Proofs.YtpdpejlcilnafaaGreatDoor.kit
namespace Go.Proofs.YtpdpejlcilnafaaGreatDoor.kit
open Go.ChangeShapes Go.WideShapes Go.ChangeAt Go.RowKit
set_option linter.unusedVariables false

def pmStr : ByteArray := ⟨#[43, 45]⟩
theorem pmStr_low : ∀ (k : Nat), k < 2 → ∃ b : UInt8, pmStr[k]? = some b ∧ b.toNat < 128 := fun k hk => by
  match k, hk with
  | 0, _ => exact ⟨43, rfl, by decide⟩
  | 1, _ => exact ⟨45, rfl, by decide⟩
set_option maxRecDepth 100000 in
theorem pmRune_bad (r : Int) (w : World) (h : 128 ≤ r) (h2 : Lib.validRune r = false) (h3 : (r == 65533) = false) :
    Calls Tryz.prog 136 #[.string pmStr, .int .i32 r] w fun e w' => e = .returned (.int .i64 (-1)) ∧ Below w.heap.size w w' := by
  have c1 := Lib.hid (Tryz.utf8_ValidRune r)
  rw [h2] at c1
  have HV := Lib.hid h2
  clear h2
  go_enter Tryz.func136, Tryz.ntmps136
  go_wp2_with (go_at_call 156; refine ((c1.out) _).mono ?_; rintro e w' ⟨rfl, rfl⟩)
  go_ret
  exact ⟨rfl, Below.refl _ _⟩
theorem pm_at {pos : Nat} (hp : pos < pmStr.size) : (pmStr[pos]'hp).toNat < 128 := by
  obtain ⟨b, hb, hlt⟩ := pmStr_low pos hp
  rw [ByteArray.getElem?_lt' _ _ hp] at hb
  rw [Option.some.inj hb]; exact hlt
set_option maxRecDepth 100000 in
theorem pmRune_err (w : World) :
    Calls Tryz.prog 136 #[.string pmStr, .int .i32 65533] w fun e w' => e = .returned (.int .i64 (-1)) ∧ Below w.heap.size w w' := by
  go_enter Tryz.func136, Tryz.ntmps136
  go_wp2_with fail
  go_loopw [5, 6] (fun _ _ wr => ∃ pos : Nat, wr = w.iter pmStr pos) (fun _ _ wr => pmStr.size - wr.iterPos w.heap.size)
  case atStart => exact ⟨0, rfl⟩
  case round =>
    obtain ⟨pos, rfl⟩ := hrel
    by_cases hp : pos < pmStr.size
    · have hlt := pm_at hp
      have hnx : ∀ ty, (Instr.next (.pointer (some ⟨w.heap.size, 0, none⟩)) true ty).run Tryz.prog (w.iter pmStr pos) = _ := fun ty => run_next_ascii w pmStr pos ty hp hlt
      have g1 : (((pmStr[pos]'hp).toNat : Int) == 65533) = false := by rw [beq_eq_false_iff_ne]; omega
      go_wp2_with fail
      go_roundw
      case rel => exact ⟨pos + 1, rfl⟩
      case measure => simp; omega
    · have hnx : ∀ ty, (Instr.next (.pointer (some ⟨w.heap.size, 0, none⟩)) true ty).run Tryz.prog (w.iter pmStr pos) = _ := fun ty => run_next_end w pmStr pos ty hp
      go_wp2_with fail
      go_ret
      exact ⟨rfl, (Below.refl _ _).alloc (Nat.le_refl _) _⟩
theorem pm_bytes : ∀ b ∈ pmStr.data.toList, b.toNat < 128 := by decide +kernel
set_option maxRecDepth 100000 in
theorem pmRune_wide (r : Int) (w : World) (h : 128 ≤ r) (h2 : Lib.validRune r = true) (h3 : (r == 65533) = false) :
    Calls Tryz.prog 136 #[.string pmStr, .int .i32 r] w fun e w' => e = .returned (.int .i64 (-1)) ∧ Below w.heap.size w w' := by
  have c1 := Lib.hid (Tryz.utf8_ValidRune r)
  rw [h2] at c1
  have hf := encode_facts r (by rw [Go.validRune_eq]; unfold Go.validRune; unfold Lib.validRune at h2; simpa using h2) h
  have HV := Lib.hid h2
  clear h2
  obtain ⟨t, ht⟩ : ∃ t, t = Utf8.encode r := ⟨_, rfl⟩
  rw [← ht] at hf
  obtain ⟨h4, h5, h6⟩ := hf
  have HT := Lib.hid ht.symm
  have h7 := h6 (by omega)
  clear h6
  obtain ⟨L, hL⟩ : ∃ L, t.size = L + 1 := ⟨t.size - 1, by omega⟩
  have q6 : L < t.size := by omega
  have h8 : 128 ≤ (t[L]'q6).toNat := by
    have e : t.size - 1 = L := by omega
    simpa only [e] using h7
  clear h7
  have henc : ∀ W : World, (convert 21 9 (.int .i32 r)).run Tryz.prog W = .ok (.string t) W := fun W => by
    rw [← HT.out]
    exact run_convert_int_string W _ _ _ _ (by kernel_rfl) Tryz.underlying9
  by_cases q4 : L < pmStr.size
  case neg =>
    have q0 : pmStr.size = 2 := rfl
    have n1 : decide (L < pmStr.size) = false := decide_eq_false q4
    have n2 : ¬ ((L : Int) < (pmStr.size : Int)) := by omega
    clear ht
    go_enter Tryz.func136, Tryz.ntmps136
    go_wp2_with (go_at_call 156; refine ((c1.out) _).mono ?_; rintro e w' ⟨rfl, rfl⟩)
    go_step3
    go_wp2_with fail
    refine wp_loop_rounds 1 ?_
    rw [rounds_succ]
    go_wp2_with fail
    rw [Exit.noGoto_ret]
    go_simp
    go_ret
    exact ⟨rfl, Below.refl _ _⟩
  have q5 := pm_at q4
  have q41 : (L : Int) < (pmStr.size : Int) := by omega
  have q42 : (L : Int) < (t.size : Int) := by omega
  clear ht
  go_enter Tryz.func136, Tryz.ntmps136
  go_wp2_with (go_at_call 156; refine ((c1.out) _).mono ?_; rintro e w' ⟨rfl, rfl⟩)
  go_step3
  go_wp2_with fail
  refine wp_loop_rounds 1 ?_
  rw [rounds_succ]
  have g1 : (((pmStr[L]'q4).toNat : Int) == (t[L]'q6).toNat) = false := by rw [beq_eq_false_iff_ne]; omega
  have g2 : (((pmStr[L]'q4).toNat : Int) != (t[L]'q6).toNat) = true := by rw [bne_iff_ne]; omega
  go_wp2_with fail
  go_step3
  go_wp2_with fail
  have HL := Lib.hid hL
  clear hL
  go_quiet (fail)
  go_wp2_with fail
  have c3 : ∀ W, Calls Tryz.prog 155 #[.string (pmStr.extract (L + 1) pmStr.size), .int .u8 ((t[L]'q6).toNat : Int)] W fun e w' => e = .returned (.int .i64 (-1)) ∧ w' = W := fun W => by
    have h := Tryz.strings_IndexByte (pmStr.extract (L + 1) pmStr.size) ((t[L]'q6).toNat : Int) W
    rw [indexByte_none] at h
    · exact h
    · intro b hb hbc
      have := pm_bytes b (mem_extract hb)
      have e : ((t[L]'q6).toNat : Int).toNat.toUInt8 = t[L]'q6 := by simp
      rw [e] at hbc
      subst hbc
      omega
  have C3 := fun W => Lib.hid (c3 W)
  clear c3
  have q11 : (L : Int) + 1 ≤ (pmStr.size : Int) := by omega
  have q12 : (0 : Int) ≤ (L : Int) + 1 := by omega
  have q13 : ((L : Int) + 1).toNat = L + 1 := by omega
  have q14 : IntKind.i64.wrap ((L : Int) + 1) = (L : Int) + 1 := IntWalk.i64_in _ (by have : pmStr.size = 2 := rfl; omega)
  go_region_with (go_at_call 155; refine ((C3 _).out).mono ?_; rintro e w' ⟨rfl, rfl⟩)
  clear q11 q12 q13 q14
  go_wp2_with fail
  rw [Exit.noGoto_ret]
  go_simp
  go_ret
  exact ⟨rfl, below_drewN (Below.refl _ _) _⟩
/-- a rune of 128 and above is no sign -/
theorem pmRune_high (r : Int) (w : World) (h : 128 ≤ r) :
    Calls Tryz.prog 136 #[.string pmStr, .int .i32 r] w fun e w' => e = .returned (.int .i64 (-1)) ∧ Below w.heap.size w w' := by
  by_cases h2 : r = 65533
  · subst h2; exact pmRune_err w
  · have h3 : (r == 65533) = false := by rw [beq_eq_false_iff_ne]; exact h2
    cases hv : Lib.validRune r with
    | true => exact pmRune_wide r w h hv h3
    | false => exact pmRune_bad r w h hv h3
end Go.Proofs.YtpdpejlcilnafaaGreatDoor.kit
namespace Go.Proofs.YtpdpejlcilnafaaGreatDoor.kit
open Go.ChangeShapes Go.WideShapes Go.ChangeAt Go.RowKit
set_option linter.unusedVariables false
set_option linter.unusedSimpArgs false

theorem any_none : ∀ {l : List UInt8}, (∀ b ∈ l, b ≠ 43 ∧ b ≠ 45) → Lib.indexAny l [43, 45] = -1
  | [], _ => rfl
  | a :: l, h => by
    have ih := any_none (l := l) (fun b hb => h b (List.mem_cons_of_mem _ hb))
    have ha := h a (by simp)
    have hc : ([43, 45] : List UInt8).contains a = false := by simp [ha.1, ha.2]
    rw [Lib.indexAny, hc, ih]
    rfl
/-- no sign among the first k bytes -/
def noSign (s : ByteArray) (k : Nat) : Prop := ∀ b ∈ s.data.toList.take k, b ≠ 43 ∧ b ≠ 45
theorem noSign_hit {s : ByteArray} {k : Nat} (hk : k < s.size) (h : noSign s k) (hb : s[k] = 43 ∨ s[k] = 45) : Lib.indexAny s.data.toList [43, 45] = (k : Int) := by
  have hl : k < s.data.toList.length := by rw [Array.length_toList]; exact hk
  have e : s.data.toList = s.data.toList.take k ++ s[k] :: s.data.toList.drop (k + 1) := by
    conv => lhs; rw [← List.take_append_drop k s.data.toList, List.drop_eq_getElem_cons hl]
    rfl
  have hlk : (s.data.toList.take k).length = k := by rw [List.length_take, Array.length_toList]; exact Nat.min_eq_left (Nat.le_of_lt hk)
  rw [e, any_app (fun h' => (h 43 h').1 rfl) (fun h' => (h 45 h').2 rfl) hb, hlk]
theorem noSign_one {s : ByteArray} {k : Nat} (hk : k < s.size) (h : noSign s k) (hb : s[k] ≠ 43 ∧ s[k] ≠ 45) : noSign s (k + 1) := by
  have hl : k < s.data.toList.length := by rw [Array.length_toList]; exact hk
  intro b hm
  rw [List.take_succ_eq_append_getElem hl, List.mem_append] at hm
  rcases hm with hm | hm
  · exact h b hm
  · simp only [List.mem_cons, List.not_mem_nil, or_false] at hm
    rw [hm]
    exact hb
set_option maxRecDepth 100000 in
theorem decode_bytes (s : ByteArray) (pos : Nat) (h : pos < s.size) (ha : 128 ≤ (s[pos]'h).toNat) : ∀ j, j < (Utf8.decode s pos).2 → pos + j < s.size ∧ 128 ≤ (s.get! (pos + j)).toNat := by
  have hn : ¬ (s[pos]'h).toNat < 128 := by omega
  have h0 : 128 ≤ (s.get! (pos + 0)).toNat := by rw [get_at s pos h]; exact ha
  have hd : (Utf8.decode s pos).2 ≤ 4 := by
    simp only [Utf8.decode, get_at s pos h, hn, if_false]
    repeat' split
    all_goals simp
  intro j hj
  have hj4 : j = 0 ∨ j = 1 ∨ j = 2 ∨ j = 3 := by omega
  simp only [Utf8.decode, get_at s pos h, hn, if_false] at hj
  revert hj
  repeat' split
  all_goals (intro hj; rcases hj4 with rfl | rfl | rfl | rfl)
  all_goals first
    | (exact ⟨h, h0⟩)
    | (simp at hj; done)
    | (simp_all; omega)
theorem noSign_wide {s : ByteArray} {k d : Nat} (h : noSign s k) (hd : ∀ j, j < d → k + j < s.size ∧ 128 ≤ (s.get! (k + j)).toNat) : ∀ j, j ≤ d → noSign s (k + j) := by
  intro j
  induction j with
  | zero => intro _; exact h
  | succ j ih =>
    intro hj
    obtain ⟨h1, h2⟩ := hd j (by omega)
    have e : s.get! (k + j) = s[k + j] := get_at s (k + j) h1
    rw [e] at h2
    have n1 : s[k + j] ≠ 43 := fun e => by rw [e] at h2; revert h2; decide
    have n2 : s[k + j] ≠ 45 := fun e => by rw [e] at h2; revert h2; decide
    exact noSign_one h1 (ih (by omega)) ⟨n1, n2⟩
theorem noSign_all {s : ByteArray} {k : Nat} (hk : s.size ≤ k) (h : noSign s k) : Lib.indexAny s.data.toList [43, 45] = -1 := by
  refine any_none (fun b hb => h b ?_)
  rw [List.take_of_length_le (by rw [Array.length_toList]; exact hk)]
  exact hb
set_option maxRecDepth 100000 in
theorem indexAny_short (s : ByteArray) (w : World) (h8 : s.size ≤ 8) :
    Calls Tryz.prog 116 #[.string s, .string pmStr] w fun e w' => e = .returned (.int .i64 (Lib.indexAny s.data.toList [43, 45])) ∧ Below w.heap.size w w' := by
  have g8 : decide (8 < s.size) = false := decide_eq_false (by omega)
  go_enter Tryz.func116, Tryz.ntmps116
  have f1 : pmStr.toList.isEmpty = false := by rw [ByteArray.toList_eq]; rfl
  have f2 : ((pmStr.size : Int) == 1) = false := rfl
  go_wp2_with (go_at_call 137; go_enter Tryz.func137, Tryz.ntmps137)
  go_loopw [4] (fun v wr => ∃ k : Nat, k ≤ s.size ∧ v = .int .i64 0 ∧ wr.heap[w.heap.size]? = some (.stringIter s k) ∧ Hid (noSign s k) ∧ Below w.heap.size w wr) (fun _ wr => s.size - wr.iterPos w.heap.size)
  case atStart =>
    refine ⟨0, Nat.zero_le _, rfl, ?_, Lib.hid (fun b hb => by simp at hb), (Below.refl _ _).alloc (Nat.le_refl _) _⟩
    have h := World.iter_heap w s 0
    simpa using h
  case round =>
    obtain ⟨k, hk, rfl, hit, hns, hb⟩ := hrel
    have HIT := Lib.hid hit
    have HPOS : Hid (wr.iterPos w.heap.size = k) := Lib.hid (iterPos_of hit)
    have hK : w.heap.size < wr.heap.size := (Array.getElem?_eq_some_iff.1 hit).1
    clear hit
    by_cases hlt : k < s.size
    · by_cases hlow : s[k].toNat < 128
      · have hnx := fun ty => Lib.run_next_ascii_at (P := Tryz.prog) wr w.heap.size s k ty HIT.out hlt hlow
        have HITA := Lib.hid (Lib.iterAt_heap wr w.heap.size s k (k + 1) HIT.out)
        have hbA := Lib.below_iterAt hb (Nat.le_refl _) s (k + 1)
        by_cases hs : s[k] = 43 ∨ s[k] = 45
        · have HF := Lib.hid (noSign_hit hlt hns.out hs)
          obtain ⟨q, hq1, hq⟩ : ∃ q : Nat, q ≤ 1 ∧ Lib.indexByte pmStr.data.toList ((s[k].toNat : Int)).toNat.toUInt8 = (q : Int) := by
            rcases hs with e | e
            · rw [e]; exact ⟨0, by omega, by decide⟩
            · rw [e]; exact ⟨1, by omega, by decide⟩
          have c1 := fun W => Tryz.strings_IndexRune_ascii pmStr (s[k].toNat : Int) W (by omega) (by omega)
          rw [hq] at c1
          have C1 := fun W => Lib.hid (c1 W)
          have q0 : (0 : Int) ≤ (q : Int) := by omega
          clear c1 hq hs
          go_wp2_with (go_at_call 136; refine ((C1 _).out).mono ?_; rintro e w1 ⟨rfl, rfl⟩)
          go_ret
          exact ⟨by rw [HF.out]; rfl, hbA⟩
        · have HN := Lib.hid (noSign_one hlt hns.out (by constructor <;> (intro e; exact hs (by simp [e]))))
          have hq : Lib.indexByte pmStr.data.toList ((s[k].toNat : Int)).toNat.toUInt8 = -1 := by
            refine indexByte_none _ _ (fun b hb e => hs ?_)
            have e2 : ((s[k].toNat : Int)).toNat.toUInt8 = s[k] := by simp
            rw [e2] at e
            have hb2 : b = 43 ∨ b = 45 := by
              have : b ∈ ([43, 45] : List UInt8) := hb
              simpa using this
            rw [← e]; exact hb2
          have c1 := fun W => Tryz.strings_IndexRune_ascii pmStr (s[k].toNat : Int) W (by omega) (by omega)
          rw [hq] at c1
          have C1 := fun W => Lib.hid (c1 W)
          clear c1 hq hs
          go_wp2_with (go_at_call 136; refine ((C1 _).out).mono ?_; rintro e w1 ⟨rfl, rfl⟩)
          go_roundw
          case rel => exact ⟨k + 1, by omega, rfl, HITA.out, HN, hbA⟩
          case measure => rw [HPOS.out, iterPos_of HITA.out]; omega
      · have hdb := decode_bytes s k hlt (by omega)
        have hnx := fun ty => Lib.run_next_any_at (P := Tryz.prog) wr w.heap.size s k ty HIT.out hlt
        have hd1 := decode_high s k hlt (by omega)
        obtain ⟨d, hd⟩ : ∃ d, d = Utf8.decode s k := ⟨_, rfl⟩
        simp only [← hd] at hnx hd1 hdb
        clear hd
        obtain ⟨r, n⟩ := d
        simp only at hnx hd1 hdb
        have hle := (hdb (n - 1) (by omega)).1
        have HN := Lib.hid (noSign_wide hns.out hdb n (Nat.le_refl _))
        have HITA := Lib.hid (Lib.iterAt_heap wr w.heap.size s k (k + n) HIT.out)
        have hbA := Lib.below_iterAt hb (Nat.le_refl _) s (k + n)
        have C1 := fun W => Lib.hid (pmRune_high (r : Int) W (by omega))
        have HZ := Lib.hid hbA.size
        clear hdb
        go_wp2_with (go_at_call 136; refine ((C1 _).out).mono ?_; rintro e w1 ⟨rfl, hb1⟩)
        have HIT1 := Lib.hid ((hb1.block _ (by rw [Lib.iterAt_size]; exact hK)).trans HITA.out)
        go_roundw
        case rel => exact ⟨k + n, by omega, rfl, HIT1.out, HN, hbA.trans (hb1.mono HZ.out)⟩
        case measure => rw [HPOS.out, iterPos_of HIT1.out]; omega
    · obtain rfl : k = s.size := by omega
      have hnx := fun ty => Lib.run_next_end_at (P := Tryz.prog) wr w.heap.size s s.size ty HIT.out hlt
      have HF := Lib.hid (noSign_all (Nat.le_refl _) hns.out)
      go_wp2_with fail
      go_ret
      exact ⟨by rw [HF.out]; rfl, hb⟩
theorem indexAnyPM (s : ByteArray) (w : World) (hs : s.size ≤ 1048576) :
    Calls Tryz.prog 116 #[.string s, .string pmStr] w fun e w' => e = .returned (.int .i64 (Lib.indexAny s.data.toList [43, 45])) ∧ Below w.heap.size w w' := by
  by_cases h8 : s.size ≤ 8
  · exact indexAny_short s w h8
  · refine (Tryz.strings_IndexAny_long (zero_of_info (n := 256) (by kernel_rfl)).1 s pmStr w (by decide) (by omega) (by omega) (by decide) (fun j b hb => ?_)).mono ?_
    · have hm : b ∈ ([43, 45] : List UInt8) := List.mem_of_getElem? hb
      simp only [List.mem_cons, List.not_mem_nil, or_false] at hm
      rcases hm with rfl | rfl <;> decide
    · rintro e w' ⟨rfl, rfl⟩
      exact ⟨rfl, ((Below.refl _ _).alloc (Nat.le_refl _) _).alloc (by simp) _⟩
end Go.Proofs.YtpdpejlcilnafaaGreatDoor.kit
namespace Go.Proofs.YtpdpejlcilnafaaGreatDoor.kit
open Go.ChangeShapes Go.WideShapes Go.ChangeAt Go.RowKit
set_option linter.unusedVariables false
set_option linter.unusedSimpArgs false

/-- the row of the parts: its block stays -/
def PartsAt (w : World) (g : Nat) (ps : List (List UInt8)) : Prop := (∃ cs r, w.heap[g]? = some (.cells cs 9 r)) ∧ ∀ j, j < ps.length → w.cell? ⟨g, j, none⟩ = some (str (ps.getD j []))
theorem PartsAt.lt {w : World} {g : Nat} {ps : List (List UInt8)} (h : PartsAt w g ps) : g < w.heap.size := by obtain ⟨cs, r, h⟩ := h.1; exact (Array.getElem?_eq_some_iff.1 h).1
theorem PartsAt.same {w w' : World} {g : Nat} {ps : List (List UInt8)} (h : PartsAt w g ps) (hb : w'.heap[g]? = w.heap[g]?) : PartsAt w' g ps := by
  obtain ⟨cs, r, hc⟩ := h.1
  refine ⟨⟨cs, r, hb.trans hc⟩, fun j hj => ?_⟩
  rw [← h.2 j hj]
  simp only [World.cell?, hb]
theorem PartsAt.later {w w' : World} {g : Nat} {ps : List (List UInt8)} (h : PartsAt w g ps) (hb : Below w.heap.size w w') : PartsAt w' g ps := h.same (hb.block g h.lt)
theorem parts_of {base : Nat} {w : World} {v : Value} {ps : List (List UInt8)} (h : w.ownsRow base 9 1 v ps.length (strs ps)) (h0 : 0 < ps.length) :
    ∃ g cap, v = .slice (some ⟨g, 0, none⟩) ps.length cap ∧ ps.length ≤ cap ∧ cap ≤ maxLen ∧ PartsAt w g ps := by
  obtain ⟨g, cap, rfl, h1, h2, h3, h4, h5⟩ := strs_there h h0
  refine ⟨g, cap, rfl, h1, h2, ?_, h5⟩
  rcases h.2 with ⟨hv, _⟩ | ⟨q, c, cur, hv, _, hh, _⟩
  · cases hv
  · cases hv
    exact ⟨_, _, hh⟩
theorem PartsAt.past {w w' : World} {g : Nat} {ps : List (List UInt8)} (h : PartsAt w g ps) {e : TypeId} (hte : 9 ≠ e) {base size k : Nat} {v : Value} {xs : List Value} (hr : w.ownsRow base e size v k xs) (hg : w.grownBy w' v.ownBlock) : PartsAt w' g ps := by
  obtain ⟨cs, r, hc⟩ := h.1
  exact h.same (hg.block g h.lt (fun e => row_other hc hte hr e.symm))
theorem PartsAt.put {w : World} {g b : Nat} {ps : List (List UInt8)} (h : PartsAt w g ps) {t : TypeId} {cs : Array Value} (hb : BoxC w b t cs) (hte : t ≠ 9) (j : Nat) (u : Value) : PartsAt (w.setCell ⟨b, j, none⟩ u) g ps := by
  have hne : g ≠ b := fun e => by
    obtain ⟨cs', r, hc⟩ := h.1
    rw [e] at hc
    have := hc.symm.trans hb
    simp at this
    exact hte this.2.1.symm
  exact h.same (Below.heap_setCell _ _ _ _ (by simpa using hne))
theorem getD_at {s : ByteArray} {k : Nat} (h : k < s.size) : s.data.toList.getD k 0 = s[k] := by
  have hl : k < s.data.toList.length := by rw [Array.length_toList]; exact h
  rw [List.getD_eq_getElem?_getD, List.getElem?_eq_getElem hl]
  rfl
theorem numFromM (q : List UInt8) (w : World) (h : q.length ≤ 1048576) : Calls Tryz.prog 94 #[str q] w fun e w' => e = .returned (.int .i64 (numL q)) ∧ Below w.heap.size w w' := by
  have := numFrom ⟨q.toArray⟩ w (by rw [size_mk]; exact h)
  simpa using this
end Go.Proofs.YtpdpejlcilnafaaGreatDoor.kit
namespace Go.Proofs.YtpdpejlcilnafaaGreatDoor.kit
open Go.ChangeShapes Go.WideShapes Go.ChangeAt Go.RowKit
set_option linter.unusedVariables false
set_option linter.unusedSimpArgs false

theorem split_far (x : UInt8) : ∀ (n : Nat) (l : List UInt8), l.length ≤ n → ∀ k k', l.length ≤ k → l.length ≤ k' → Lib.splitK [x] 0 k l = Lib.splitK [x] 0 k' l
  | n, l, hn, k, k', h, h' => by
    rcases first_x x l with hx | ⟨a, r, ha, rfl⟩
    · rw [split_none hx, split_none hx]
    · match n, k, k' with
      | 0, _, _ => simp at hn
      | _, 0, _ => simp at h
      | _, _, 0 => simp at h'
      | n + 1, k + 1, k' + 1 =>
        rw [split_app ha, split_app ha, split_far x n r (by simp at hn; omega) k k' (by simp at h; omega) (by simp at h'; omega)]
theorem words_min (x : UInt8) (n : Nat) (l : List UInt8) : Lib.splitK [x] 0 (min (n + 1) (l.length + 1) - 1) l = Lib.splitK [x] 0 n l := by
  by_cases h : n + 1 ≤ l.length + 1
  · rw [Nat.min_eq_left h]; rfl
  · exact split_far x _ l (Nat.le_refl _) _ _ (by omega) (by omega)
theorem splitWordsK (x : UInt8) (n : Nat) (hn : n ≤ 100) (s : ByteArray) (w : World) (hs : s.size ≤ 1048576) (hM : Mx w) :
    Calls Tryz.prog 42 #[.string s, .string { data := #[x] }, .int .i64 ((n + 1 : Nat) : Int)] w fun e w' => ∃ g cap, e = .returned (.slice (some ⟨g, 0, none⟩) (Lib.splitK [x] 0 n s.data.toList).length cap) ∧ (Lib.splitK [x] 0 n s.data.toList).length ≤ cap ∧ cap ≤ n + 1 ∧ w.heap.size ≤ g ∧
      PartsAt w' g (Lib.splitK [x] 0 n s.data.toList) ∧ Below w.heap.size w w' := by
  obtain ⟨m, hm⟩ := hM
  have hl : s.data.toList.length = s.size := by rw [Array.length_toList]; rfl
  refine (Tryz.strings_SplitN s { data := #[x] } (n + 1) m w (by omega) hm (by show 1 ≤ 1; omega) (by omega) (by omega)).mono ?_
  rintro e w' ⟨rfl, rfl⟩
  have hd := Lib.splitB_data { data := #[x] } 0 (min (n + 1) (s.size + 1) - 1) s
  have hle := Lib.splitB_length_le { data := #[x] } 0 (min (n + 1) (s.size + 1) - 1) s
  have hw : Lib.splitK [x] 0 n s.data.toList = (Lib.splitB { data := #[x] } 0 (min (n + 1) (s.size + 1) - 1) s).map (·.data.toList) := by rw [hd, ← words_min, hl]
  generalize Lib.splitB { data := #[x] } 0 (min (n + 1) (s.size + 1) - 1) s = X at *
  have hlen : (Lib.splitK [x] 0 n s.data.toList).length = X.length := by rw [hw, List.length_map]
  refine ⟨w.heap.size, min (n + 1) (s.size + 1), by rw [hlen], by rw [hlen]; omega, by omega, Nat.le_refl _, ⟨⟨_, _, heap_alloc_new w _⟩, fun j hj => ?_⟩, (Below.refl _ _).alloc (Nat.le_refl _) _⟩
  rw [World.cell?_alloc_at _ _ _ _ rfl]
  rw [hlen] at hj
  unfold Lib.cellsOf
  rw [List.getElem?_toArray, List.getElem?_append_left (by simpa using hj), hw]
  simp [hj]
end Go.Proofs.YtpdpejlcilnafaaGreatDoor.kit
namespace Go.Proofs.YtpdpejlcilnafaaGreatDoor.kit
open Go.ChangeShapes Go.WideShapes Go.ChangeAt Go.RowKit
set_option linter.unusedVariables false
set_option linter.unusedSimpArgs false

theorem cutAtM (b : List UInt8) (w : World) (h : b.length ≤ 1048576) (hM : Mx w) :
    Calls Tryz.prog 88 #[str b, .string ⟨#[46]⟩] w fun e w' => e = .returned (.tuple #[str (Lib.cut b [46]).1, str (Lib.cut b [46]).2.1, .bool (Lib.cut b [46]).2.2]) ∧ Below w.heap.size w w' := by
  obtain ⟨m, hm⟩ := hM
  refine (Tryz.strings_Cut ⟨b.toArray⟩ ⟨#[46]⟩ m w (by rw [size_mk]; omega) hm).mono ?_
  rintro e w' ⟨rfl, n, rfl⟩
  exact ⟨rfl, below_drewN (Below.refl _ _) _⟩
def pxV (p : List UInt8) : Value := sessV (if pxOk p = true then px p else (0, 0, false, 0))
theorem pxV_no {p : List UInt8} (h : pxOk p = false) : pxV p = .agg #[.int .i64 0, .int .i64 0, .bool false, .int .i64 0] := by unfold pxV; rw [h]; rfl
theorem pxV_yes {p : List UInt8} (h : pxOk p = true) : pxV p = sessV (px p) := by unfold pxV; rw [if_pos h]
set_option maxRecDepth 100000 in
set_option maxHeartbeats 8000000 in
theorem implParseSession (p : List UInt8) (w : World) (hp : p.length ≤ 1048576) (hT : Tab w) (hM : Mx w) :
    Calls Tryz.prog 84 #[str p] w fun e w' => e = .returned (.tuple #[pxV p, .bool (pxOk p)]) ∧ Below w.heap.size w w' := by
  obtain ⟨W, hW⟩ : ∃ W, W = w.alloc (.cells #[.int .i64 0, .int .i64 0, .bool false, .int .i64 0] 120) := ⟨_, rfl⟩
  have hB : Below w.heap.size w W := by rw [hW]; exact (Below.refl _ _).alloc (Nat.le_refl _) _
  have HR := Lib.hid (show BoxC W w.heap.size 120 #[.int .i64 0, .int .i64 0, .bool false, .int .i64 0] by rw [hW]; exact BoxC.new _ _ _)
  have HB := Lib.hid hB
  have HW := Lib.hid hW
  have HT := Lib.hid hT
  have HM := Lib.hid hM
  have hc := cut_len p
  have jc := fun W' (h : Mx W') => cutAtM p W' hp h
  have HE := Lib.hid (show pxOk p = (decide (0 ≤ Lib.indexAny (restX p) [43, 45]) && (parOk (Lib.cut p [46]).1 && (parOk ((restX p).take (Lib.indexAny (restX p) [43, 45]).toNat) && parOk ((restX p).drop ((Lib.indexAny (restX p) [43, 45]).toNat + 1))))) from rfl)
  have HV := Lib.hid (show px p = (parN (Lib.cut p [46]).1, parN ((restX p).take (Lib.indexAny (restX p) [43, 45]).toNat), (restX p).getD (Lib.indexAny (restX p) [43, 45]).toNat 0 == 43, parN ((restX p).drop ((Lib.indexAny (restX p) [43, 45]).toNat + 1))) from rfl)
  have HG := fun h => any_at (l := restX p) h
  have ja := fun W' => indexAnyPM ⟨(restX p).toArray⟩ W' (by rw [size_mk]; unfold restX; omega)
  simp only at ja
  rw [show (Lib.cut p [46]).2.1 = restX p from rfl] at jc hc
  generalize (Lib.cut p [46]).2.2 = pf at *
  generalize (Lib.cut p [46]).1 = pa at *
  generalize restX p = rs at *
  generalize Lib.indexAny rs [43, 45] = sg0 at *
  unfold pmStr at ja
  have JC := Lib.hid jc
  have JA := Lib.hid ja
  have hla : pa.length ≤ 1048576 := by omega
  have hlr : rs.length ≤ 1048576 := by omega
  clear hB hW hT hM jc ja hc
  go_enter Tryz.func84, Tryz.ntmps84
  go_wp2_with fail
  rw [← HW.out]
  refine (JC.out _ (HM.out.below HB.out)).mono ?_
  rintro e w1 ⟨rfl, hb⟩
  replace HR := Lib.hid (HR.out.later hb)
  replace HB := Lib.hid (HB.out.trans (hb.mono HB.out.size))
  clear hb HW JC
  go_wp2_with fail
  refine (JA.out _).mono ?_
  rintro e w2 ⟨rfl, hb⟩
  replace HR := Lib.hid (HR.out.later hb)
  replace HB := Lib.hid (HB.out.trans (hb.mono HB.out.size))
  clear hb JA
  by_cases h0 : 0 ≤ sg0
  · obtain ⟨k, hk, hkl, hb⟩ := HG h0
    subst hk
    obtain ⟨rb, rfl⟩ : ∃ rb : ByteArray, rs = rb.data.toList := ⟨⟨rs.toArray⟩, by simp⟩
    have hlb : rb.data.toList.length = rb.size := by rw [Array.length_toList]; rfl
    rw [hlb] at hkl hlr
    have E1 := Lib.hid (show Value.string (rb.extract 0 k) = str (rb.data.toList.take k) by rw [ext_str]; simp)
    have E2 := Lib.hid (show Value.string (rb.extract (k + 1) rb.size) = str (rb.data.toList.drop (k + 1)) by rw [ext_str, List.take_of_length_le (by rw [List.length_drop, hlb]; exact Nat.le_refl _)])
    have k1 : (0 : Int) ≤ (k : Int) := by omega
    have k2 : (k : Int) ≤ (rb.size : Int) := by omega
    have k3 : (k : Int) + 1 ≤ (rb.size : Int) := by omega
    have k4 : (0 : Int) ≤ (k : Int) + 1 := by omega
    have k5 : ((k : Int) + 1).toNat = k + 1 := by omega
    have k6 : IntKind.i64.wrap ((k : Int) + 1) = (k : Int) + 1 := IntWalk.i64_in _ (by omega)
    have k7 : k ≤ rb.size := by omega
    have k8 : k + 1 ≤ rb.size := by omega
    have hbL : Below w2.heap.size w2 (w2.alloc (.cells #[str pa, .string (rb.extract 0 k), .string (rb.extract (k + 1) rb.size)] 9)).drew := ((Below.refl _ _).alloc (Nat.le_refl _) _).drew
    have hat : AtP (w2.alloc (.cells #[str pa, .string (rb.extract 0 k), .string (rb.extract (k + 1) rb.size)] 9)).drew (some ⟨w2.heap.size, 0, none⟩) [pa, rb.data.toList.take k, rb.data.toList.drop (k + 1)] := fun j hj => by
      refine ⟨_, rfl, by show w2.heap.size < (w2.alloc _).heap.size; simp, ?_⟩
      have hadd : (⟨w2.heap.size, 0, none⟩ : Addr).add j = ⟨w2.heap.size, j, none⟩ := by unfold Addr.add; split <;> simp_all
      show (w2.alloc _).cell? _ = _
      rw [hadd, World.cell?_alloc_at _ _ _ _ rfl, E1.out, E2.out]
      match j, hj with
      | 0, _ => rfl
      | 1, _ => rfl
      | 2, _ => rfl
    have HBL := Lib.hid (HB.out.trans (hbL.mono HB.out.size))
    have PI := Lib.hid (parseInts (some ⟨w2.heap.size, 0, none⟩) 3 3 [pa, rb.data.toList.take k, rb.data.toList.drop (k + 1)] _ rfl (by omega)
      (fun j => by match j with
        | 0 => exact hla
        | 1 => show (rb.data.toList.take k).length ≤ _; rw [List.length_take]; omega
        | 2 => show (rb.data.toList.drop (k + 1)).length ≤ _; rw [List.length_drop]; omega
        | (n + 3) => simp) hat (HT.out.below HBL.out))
    have HLL := Lib.hid hbL
    clear hat hbL
    have g0 : decide ((k : Int) < 0) = false := decide_eq_false (by omega)
    go_upto_region 5 with (fail)
    go_cut [8, 9] (fun b c wx => ∃ v, b = v ∧ c = .bool (allPar [pa, rb.data.toList.take k, rb.data.toList.drop (k + 1)]) ∧ OwnI w.heap.size wx v (numsOf [pa, rb.data.toList.take k, rb.data.toList.drop (k + 1)]) ∧ Below w2.heap.size w2 wx)
    case first =>
      go_region_with (go_at_call 43; refine PI.out.mono ?_; rintro e w3 ⟨v, rfl, ho, hb⟩)
      all_goals
        go_wp2_with fail
        go_meet
        exact ⟨v, rfl, rfl, OwnI.mono ho HBL.out.size, HLL.out.trans (hb.mono HLL.out.size)⟩
    case rest =>
      obtain ⟨v, rfl, rfl, ho, hb⟩ := hcut
      replace HR := Lib.hid (HR.out.later hb)
      replace HB := Lib.hid (HB.out.trans (hb.mono HB.out.size))
      clear hb PI HLL HBL
      have hall : allPar [pa, rb.data.toList.take k, rb.data.toList.drop (k + 1)] = (parOk pa && (parOk (rb.data.toList.take k) && parOk (rb.data.toList.drop (k + 1)))) := by simp [allPar]
      rw [Int.toNat_natCast] at HE HV
      have HE2 := Lib.hid (show pxOk p = allPar [pa, rb.data.toList.take k, rb.data.toList.drop (k + 1)] by rw [HE.out, hall, decide_eq_true (show (0 : Int) ≤ (k : Int) by omega), Bool.true_and])
      cases ha : allPar [pa, rb.data.toList.take k, rb.data.toList.drop (k + 1)] with
      | false =>
        rw [ha] at HE2
        have HF := Lib.hid HE2.out
        obtain ⟨y, q, rfl⟩ := ho.shape
        clear hall ha ho
        have r0 := HR.out.c 0 rfl
        have r1 := HR.out.c 1 rfl
        have r2 := HR.out.c 2 rfl
        have r3 := HR.out.c 3 rfl
        have f0 := HR.out.f 0
        have f1 := HR.out.f 1
        have f2 := HR.out.f 2
        have f3 := HR.out.f 3
        go_wp2_with fail
        refine bodyPost_ret (v := .tuple #[.agg #[.int .i64 0, .int .i64 0, .bool false, .int .i64 0], .bool false]) (by simp [results, Tryz.results84, go_sem, r0, r1, r2, r3]) rfl ?_
        exact ⟨by rw [pxV_no HF.out, HF.out], (((HB.out.setCell (p := ⟨w.heap.size, 0, none⟩) (Nat.le_refl _) _).setCell (p := ⟨w.heap.size, 1, none⟩) (Nat.le_refl _) _).setCell (p := ⟨w.heap.size, 2, none⟩) (Nat.le_refl _) _).setCell (p := ⟨w.heap.size, 3, none⟩) (Nat.le_refl _) _⟩
      | true =>
        have hnum : numsOf [pa, rb.data.toList.take k, rb.data.toList.drop (k + 1)] = [parN pa, parN (rb.data.toList.take k), parN (rb.data.toList.drop (k + 1))] := by unfold numsOf; rw [ha]; rfl
        rw [ha] at HE2
        rw [hnum] at ho
        obtain ⟨g, cp, rfl, hc3, hcm, hc3', hc0, hc1, hc2⟩ := ho.three
        generalize parN pa = n0 at *
        generalize parN (rb.data.toList.take k) = n1 at *
        generalize parN (rb.data.toList.drop (k + 1)) = n2 at *
        have hbk : rb.data.toList.getD k 0 = rb[k] := by
          have hl : k < rb.data.toList.length := by rw [hlb]; exact hkl
          rw [List.getD_eq_getElem?_getD, List.getElem?_eq_getElem hl]
          rfl
        rw [hbk] at HV hb
        have E3 := Lib.hid (show Value.string (rb.extract k (k + 1)) = str [rb[k]] by
          rw [ext_str, show k + 1 - k = 1 by omega]
          have hl : k < rb.data.toList.length := by rw [hlb]; exact hkl
          rw [List.drop_eq_getElem_cons hl]
          rfl)
        clear hall ha ho hnum hbk
        have r0 := HR.out.c 0 rfl
        have r1 := HR.out.c 1 rfl
        have r2 := HR.out.c 2 rfl
        have r3 := HR.out.c 3 rfl
        have f0 := HR.out.f 0
        have f1 := HR.out.f 1
        have f2 := HR.out.f 2
        have f3 := HR.out.f 3
        have w0 : (0 : Int) < 3 := by omega
        have w1' : (1 : Int) < 3 := by omega
        have w2' : (2 : Int) < 3 := by omega
        go_upto_region 8 with (fail)
        go_region
        have HS3 : Hid (((rb.extract k (k + 1)).toList == [43]) = (rb[k] == 43)) := Lib.hid (by
          have e : (rb.extract k (k + 1)).data.toList = [rb[k]] := by
            have := E3.out
            injection this with this
            rw [this]
          rw [ByteArray.toList_eq, e]
          simp)
        have hbA := ((Below.refl wc.heap.size wc).alloc (Nat.le_refl _) (.cells #[.bool ((rb.extract k (k + 1)).toList == [43]), .int .i64 n2] 113)).drew
        have HBW := Lib.hid HB.out
        have HRW := Lib.hid HR.out
        have hrl := HR.out.lt
        have hrn : w.heap.size ≠ wc.heap.size := Nat.ne_of_lt hrl
        have hrm : wc.heap.size ≠ w.heap.size := Nat.ne_of_gt hrl
        replace HR := Lib.hid (HR.out.later hbA)
        replace HB := Lib.hid (HB.out.trans (hbA.mono HB.out.size))
        have y0 := (hbA.cell (p := ⟨g, 0, none⟩) hc3').trans hc0
        have y1 := (hbA.cell (p := ⟨g, 1, none⟩) hc3').trans hc1
        have s0 := HR.out.c 0 rfl
        have s1 := HR.out.c 1 rfl
        have s2 := HR.out.c 2 rfl
        have s3 := HR.out.c 3 rfl
        have q0 := HR.out.f 0
        have q1 := HR.out.f 1
        have q2 := HR.out.f 2
        have q3 := HR.out.f 3
        clear hbA hc0 hc1 hc2
        go_upto_region 9 with (fail)
        go_region
        have HB4 := Lib.hid ((((HBW.out.setCell (p := ⟨w.heap.size, 0, none⟩) (Nat.le_refl _) (.int .i64 n0)).setCell (p := ⟨w.heap.size, 1, none⟩) (Nat.le_refl _) (.int .i64 n1)).setCell (p := ⟨w.heap.size, 2, none⟩) (Nat.le_refl _) (.bool ((rb.extract k (k + 1)).toList == [43]))).setCell (p := ⟨w.heap.size, 3, none⟩) (Nat.le_refl _) (.int .i64 n2))
        have HR4 := Lib.hid ((((HRW.out.put 0 (.int .i64 n0)).put 1 (.int .i64 n1)).put 2 (.bool ((rb.extract k (k + 1)).toList == [43]))).put 3 (.int .i64 n2))
        have HR9 := Lib.hid (HR4.out.later (((Below.refl _ _).alloc (Nat.le_refl _) (.cells #[.bool ((rb.extract k (k + 1)).toList == [43]), .int .i64 n2] 113)).drew).drew)
        clear r0 r1 r2 r3 s0 s1 s2 s3
        have z0 := HR9.out.c 0 rfl
        have z1 := HR9.out.c 1 rfl
        have z2 := HR9.out.c 2 rfl
        have z3 := HR9.out.c 3 rfl
        go_wp2_with fail
        refine bodyPost_ret (v := .tuple #[.agg #[.int .i64 n0, .int .i64 n1, .bool ((rb.extract k (k + 1)).toList == [43]), .int .i64 n2], .bool true]) (by simp [results, Tryz.results84, go_sem, z0, z1, z2, z3]) rfl ?_
        exact ⟨by rw [pxV_yes HE2.out, HE2.out, HV.out, HS3.out], ((HB4.out.alloc HB4.out.size _).drew).drew⟩
  · have HF := Lib.hid (show pxOk p = false by rw [HE.out, decide_eq_false h0]; rfl)
    have g0 : decide (sg0 < 0) = true := decide_eq_true (by omega)
    clear h0 HG
    have r0 := HR.out.c 0 rfl
    have r1 := HR.out.c 1 rfl
    have r2 := HR.out.c 2 rfl
    have r3 := HR.out.c 3 rfl
    have f0 := HR.out.f 0
    have f1 := HR.out.f 1
    have f2 := HR.out.f 2
    have f3 := HR.out.f 3
    go_wp2_with fail
    refine bodyPost_ret (v := .tuple #[.agg #[.int .i64 0, .int .i64 0, .bool false, .int .i64 0], .bool false]) (by simp [results, Tryz.results84, go_sem, r0, r1, r2, r3]) rfl ?_
    exact ⟨by rw [pxV_no HF.out, HF.out], (((HB.out.setCell (p := ⟨w.heap.size, 0, none⟩) (Nat.le_refl _) _).setCell (p := ⟨w.heap.size, 1, none⟩) (Nat.le_refl _) _).setCell (p := ⟨w.heap.size, 2, none⟩) (Nat.le_refl _) _).setCell (p := ⟨w.heap.size, 3, none⟩) (Nat.le_refl _) _⟩
end Go.Proofs.YtpdpejlcilnafaaGreatDoor.kit
namespace Go.Proofs.YtpdpejlcilnafaaGreatDoor.kit
open Go.ChangeShapes Go.WideShapes Go.ChangeAt Go.RowKit
set_option linter.unusedVariables false

theorem own_below {w w' : World} {base : Nat} {e : TypeId} {size : Nat} {v : Value} {n : Nat} {xs : List Value} (h : w.ownsRow base e size v n xs) (hb : Below w.heap.size w w') : w'.ownsRow base e size v n xs :=
  h.kept (row := none) ⟨hb.os, hb.tape, hb.output, hb.size, fun k hk _ => hb.block k hk⟩ (by cases v.ownBlock <;> simp)
theorem own_ne_iter {w : World} {base : Nat} {e : TypeId} {size : Nat} {v : Value} {n : Nat} {xs : List Value} (h : w.ownsRow base e size v n xs) {k : Nat} {s : ByteArray} {p : Nat} (hk : w.heap[k]? = some (.stringIter s p)) : v.ownBlock ≠ some k := by
  rcases h.2 with ⟨rfl, _⟩ | ⟨g, cap, cur, rfl, _, hg, _⟩
  · simp [Value.ownBlock]
  · intro e1
    have : g = k := by simpa [Value.ownBlock] using e1
    subst this
    rw [hg] at hk
    cases hk
theorem own_iterAt {w : World} {base : Nat} {e : TypeId} {size : Nat} {v : Value} {n : Nat} {xs : List Value} (h : w.ownsRow base e size v n xs) {k : Nat} {s : ByteArray} {p : Nat} (hk : w.heap[k]? = some (.stringIter s p)) (p' : Nat) : (w.iterAt k s p').ownsRow base e size v n xs :=
  h.kept (row := some k) ⟨rfl, rfl, rfl, by rw [Lib.iterAt_size]; exact Nat.le_refl _, fun i hi hne => Lib.iterAt_other w k i s p' (fun e1 => hne (by rw [e1]))⟩ (.inr (own_ne_iter h hk))
theorem iter_grown {w w' : World} {row : Option Nat} {k : Nat} {s : ByteArray} {p : Nat} (hk : w.heap[k]? = some (.stringIter s p)) (hg : w.grownBy w' row) (hne : row ≠ some k) : w'.heap[k]? = some (.stringIter s p) :=
  (hg.block k (Array.getElem?_eq_some_iff.1 hk).1 (fun e => hne e.symm)).trans hk
theorem good_take1 {l : List UInt8} {k : Nat} (hk : k < l.length) (h : ¬ hval (l[k]).toNat < 16) : good l = false := by
  refine good_take (k := k + 1) ?_
  rw [List.take_succ_eq_append_getElem hk, good_snoc, decide_eq_false h, Bool.and_false]
end Go.Proofs.YtpdpejlcilnafaaGreatDoor.kit
namespace Go.Proofs.YtpdpejlcilnafaaGreatDoor.kit
open Go.ChangeShapes Go.WideShapes Go.ChangeAt Go.RowKit
set_option linter.unusedVariables false
set_option linter.unusedSimpArgs false

/-- some object is out of its range -/
def wild (O : List Int) : Prop := ∃ j, j < O.length ∧ okV (O.getD j 0) = false
theorem wild_no {O : List Int} (h : wild O) : ∀ L2, ¬ MOk O L2 := fun L2 hm => by
  obtain ⟨j, hj, hv⟩ := h
  have := hm.2.1 j hj
  rw [hv] at this
  cases this
theorem wild_snoc {O : List Int} (h : wild O) (x : Int) : wild (O ++ [x]) := by
  obtain ⟨j, hj, hv⟩ := h
  refine ⟨j, by simp; omega, ?_⟩
  have e : (O ++ [x]).getD j 0 = O.getD j 0 := by simp [List.getD, List.getElem?_append_left hj]
  rw [e]; exact hv
theorem wild_new (O : List Int) {x : Int} (h : okV x = false) : wild (O ++ [x]) := by
  refine ⟨O.length, by simp, ?_⟩
  have e : (O ++ [x]).getD O.length 0 = x := by simp [List.getD]
  rw [e]; exact h
/-- what has been read of the objects -/
def objR (p : List UInt8) (k : Nat) (O : List Int) : Prop := O.length ≤ k ∧ ((wild O ∧ ∃ b ∈ p, isDig b = false) ∨ O = (p.take k).map digV)
theorem objR_one {s : ByteArray} {k : Nat} (h : k < s.size) {O : List Int} (hr : objR s.data.toList k O) : objR s.data.toList (k + 1) (O ++ [(s[k].toNat : Int) - 48]) := by
  obtain ⟨hl, hr⟩ := hr
  refine ⟨by simp; omega, ?_⟩
  rcases hr with ⟨h1, h2⟩ | h1
  · exact .inl ⟨wild_snoc h1 _, h2⟩
  · right
    have hl' : k < s.data.toList.length := by rw [Array.length_toList]; exact h
    rw [List.take_succ_eq_append_getElem hl', List.map_append, h1]
    rfl
theorem objR_wide {s : ByteArray} {k n : Nat} (h : k < s.size) (hn : 1 ≤ n) (hb : 128 ≤ s[k].toNat) {r : Int} (hr128 : 128 ≤ r) {O : List Int} (hr : objR s.data.toList k O) : objR s.data.toList (k + n) (O ++ [r - 48]) := by
  obtain ⟨hl, hr⟩ := hr
  have hl' : k < s.data.toList.length := by rw [Array.length_toList]; exact h
  refine ⟨by simp; omega, .inl ⟨wild_new O ?_, s[k], ?_, ?_⟩⟩
  · unfold okV; exact decide_eq_false (by omega)
  · exact List.getElem_mem hl'
  · unfold isDig; exact decide_eq_false (by omega)
theorem objR_all {p : List UInt8} (h3 : p.length = 3) {O : List Int} (hr : objR p 3 O) : ObjI p O := by
  obtain ⟨hl, hr⟩ := hr
  rcases hr with ⟨h1, b, hb, hd⟩ | h1
  · exact .inr ⟨fun h => (by have := h.2 b hb; rw [hd] at this; cases this), wild_no h1⟩
  · rw [List.take_of_length_le (by omega)] at h1
    by_cases hd : ∀ b ∈ p, isDig b = true
    · exact .inl ⟨h3, hd, h1⟩
    · refine .inr ⟨fun h => hd h.2, fun L2 hm => hd (fun b hb => ?_)⟩
      obtain ⟨j, hj, rfl⟩ := List.mem_iff_getElem.1 hb
      have h2 := hm.2.1 j (by rw [h1, List.length_map]; exact hj)
      have e : O.getD j 0 = digV p[j] := by rw [h1]; simp [List.getD, hj]
      rw [e] at h2
      have h4 := okV_in' h2
      unfold digV at h4
      unfold isDig
      exact decide_eq_true (by omega)
theorem objI_not3 {p : List UInt8} (h : p.length ≠ 3) : ObjI p [] := .inr ⟨fun h' => h h'.1, fun L2 hm => by have := hm.1; simp at this⟩
set_option maxRecDepth 100000 in
set_option maxHeartbeats 8000000 in
theorem implParseObjects (s : ByteArray) (w : World) (hs : s.size ≤ 1048576) :
    Calls Tryz.prog 83 #[.string s] w fun e w' => ∃ v O, e = .returned v ∧ OwnI w.heap.size w' v O ∧ ObjI s.data.toList O ∧ O.length ≤ 3 ∧ Below w.heap.size w w' := by
  have hl : s.data.toList.length = s.size := by rw [Array.length_toList]; rfl
  by_cases h3 : s.size = 3
  · have g0 : ((s.size : Int) != 3) = false := by rw [h3]; rfl
    have HALL := Lib.hid (fun O h => objR_all (p := s.data.toList) (O := O) (by rw [hl]; exact h3) h)
    have H3 := Lib.hid h3
    have hs3 : s.size ≤ 3 := by omega
    have hmk : ∀ W : World, (Instr.makeSlice 27 (.int .i64 0) (.int .i64 3)).run Tryz.prog W = .ok (.slice (some ⟨W.heap.size, 0, none⟩) 0 3) (W.alloc (.cells (madeCells #[.int .i64 0] 3) 3)) := fun W => by
      obtain ⟨i0, hi, hz0, hz1, hz2⟩ := info_parts infoI
      have h := run_make (P := Tryz.prog) W 27 3 i0 (.int .i64 0) Tryz.underlying27 hi hz0 .i64 .i64 0 3 (by omega) (by omega) (by rw [hz2]; omega) (by omega)
      simpa [hz1, Value.cells] using h
    clear hl h3
    go_enter Tryz.func83, Tryz.ntmps83
    go_wp2_with fail
    clear hmk
    go_loopw [3] (fun v wr => ∃ k O, k ≤ s.size ∧ wr.heap[w.heap.size + 1]? = some (.stringIter s k) ∧ Hid (objR s.data.toList k O) ∧ OwnI w.heap.size wr v O ∧ Below w.heap.size w wr) (fun _ wr => s.size - wr.iterPos (w.heap.size + 1))
    case atStart =>
      have hb0 := (Below.refl w.heap.size w).alloc (Nat.le_refl _) (.cells (madeCells #[.int .i64 0] 3) 3)
      refine ⟨0, [], Nat.zero_le _, ?_, Lib.hid ⟨by simp, .inr rfl⟩, ?_, ?_⟩
      · have h := World.iter_heap (w.alloc (.cells (madeCells #[.int .i64 0] 3) 3)) s 0
        simpa using h
      · exact (World.ownsRow_made w _ _ (Nat.le_refl _) (by unfold maxLen; omega) (by simp [size_madeCells])).alloc _
      · exact hb0.alloc (by simp) _
    case round =>
      obtain ⟨k, O, hk, hit, HR, hown, hb⟩ := hrel
      have HPOS : Hid (wr.iterPos (w.heap.size + 1) = k) := Lib.hid (iterPos_of hit)
      have HIT := Lib.hid hit
      have hK : w.heap.size + 1 < wr.heap.size := (Array.getElem?_eq_some_iff.1 hit).1
      have hol : O.length ≤ 3 := by have := HR.out.1; omega
      clear hit
      by_cases hlt : k < s.size
      · by_cases hlow : s[k].toNat < 128
        · have hnx := fun ty => Lib.run_next_ascii_at (P := Tryz.prog) wr (w.heap.size + 1) s k ty HIT.out hlt hlow
          have HITA := Lib.hid (Lib.iterAt_heap wr (w.heap.size + 1) s k (k + 1) HIT.out)
          have hownA := own_iterAt hown.row HIT.out (k + 1)
          have hbA := Lib.below_iterAt hb (show w.heap.size ≤ w.heap.size + 1 by omega) s (k + 1)
          have HN := Lib.hid (objR_one hlt HR.out)
          have j3 : IntKind.i32.wrap ((s[k].toNat : Int) - 48) = (s[k].toNat : Int) - 48 := IntWalk.i32_in _ (by omega)
          have j4 : IntKind.i64.wrap ((s[k].toNat : Int) - 48) = (s[k].toNat : Int) - 48 := IntWalk.i64_in _ (by omega)
          go_wp2_with (at_builtin; refine wpList_push1 rfl _ _ 27 rfl w.heap.size 3 (.int .i64 0) 8 Tryz.underlying27 infoI rfl _ _ _ rfl hownA _ 1 rfl (by rfl) (by omega) (by omega) hbA.size ?_; intro v' w2 hown' hb2 hg2)
          have HITC := Lib.hid (iter_grown HITA.out hg2 (own_ne_iter hownA HITA.out))
          go_roundw
          case rel => exact ⟨k + 1, _, by omega, HITC.out, HN, OwnI.snoc hown', hbA.trans hb2⟩
          case measure => rw [HPOS.out, iterPos_of HITC.out]; omega
        · have hdb := decode_bytes s k hlt (by omega)
          have hnx := fun ty => Lib.run_next_any_at (P := Tryz.prog) wr (w.heap.size + 1) s k ty HIT.out hlt
          have hd1 := decode_high s k hlt (by omega)
          have hd2 := decode_le s k
          have HW := Lib.hid (fun n hn r hr => objR_wide (s := s) (k := k) (n := n) hlt hn (by omega) (r := r) hr HR.out)
          obtain ⟨d, hd⟩ : ∃ d, d = Utf8.decode s k := ⟨_, rfl⟩
          simp only [← hd] at hnx hd1 hdb hd2
          clear hd
          obtain ⟨r, n⟩ := d
          simp only at hnx hd1 hdb hd2
          have hle := (hdb (n - 1) (by omega)).1
          have HN := Lib.hid (HW.out n (by omega) r (by omega))
          have HITA := Lib.hid (Lib.iterAt_heap wr (w.heap.size + 1) s k (k + n) HIT.out)
          have hownA := own_iterAt hown.row HIT.out (k + n)
          have hbA := Lib.below_iterAt hb (show w.heap.size ≤ w.heap.size + 1 by omega) s (k + n)
          have j3 : IntKind.i32.wrap ((r : Int) - 48) = (r : Int) - 48 := IntWalk.i32_in _ (by omega)
          have j4 : IntKind.i64.wrap ((r : Int) - 48) = (r : Int) - 48 := IntWalk.i64_in _ (by omega)
          clear hdb HW
          go_wp2_with (at_builtin; refine wpList_push1 rfl _ _ 27 rfl w.heap.size 3 (.int .i64 0) 8 Tryz.underlying27 infoI rfl _ _ _ rfl hownA _ 1 rfl (by rfl) (by omega) (by omega) hbA.size ?_; intro v' w2 hown' hb2 hg2)
          have HITC := Lib.hid (iter_grown HITA.out hg2 (own_ne_iter hownA HITA.out))
          go_roundw
          case rel => exact ⟨k + n, _, by omega, HITC.out, HN, OwnI.snoc hown', hbA.trans hb2⟩
          case measure => rw [HPOS.out, iterPos_of HITC.out]; omega
      · obtain rfl : k = s.size := by omega
        have hnx := fun ty => Lib.run_next_end_at (P := Tryz.prog) wr (w.heap.size + 1) s s.size ty HIT.out hlt
        have HF := Lib.hid (HALL.out O (by have h := HR.out; rw [H3.out] at h; exact h))
        go_wp2_with fail
        go_ret
        exact ⟨_, O, rfl, hown, HF.out, hol, hb⟩
  · have g0 : ((s.size : Int) != 3) = true := by rw [bne_iff_ne]; omega
    have HF := Lib.hid (objI_not3 (p := s.data.toList) (by rw [hl]; exact h3))
    clear hl h3
    go_enter Tryz.func83, Tryz.ntmps83
    go_wp2_with fail
    go_ret
    exact ⟨_, [], rfl, World.ownsRow_nil _ _ _ _, HF.out, by simp, Below.refl _ _⟩
theorem run_behind (W : World) (g n cap : Nat) : (Instr.slice 40 (.slice (some ⟨g, 0, none⟩) (n + 1) (cap + 1)) (some (.int .i64 1)) none none).run Tryz.prog W = .ok (.slice (some ⟨g, if cap = 0 then 0 else 1, none⟩) n cap) W := by
  rw [run_slice_l (P := Tryz.prog) W 40 (some ⟨g, 0, none⟩) (n + 1) (cap + 1) (by kernel_rfl) .i64 1 (by omega) (by omega)]
  have hs : (sizeOf (Tryz.prog.elem 40)).run Tryz.prog W = .ok 1 W := by kernel_rfl
  rw [hs]
  show Result.ok (sliced (some ⟨g, 0, none⟩) 1 (n + 1) (cap + 1) 1) W = _
  unfold sliced
  by_cases h : cap = 0
  · subst h; rfl
  · have e : ¬ cap + 1 = 1 := by omega
    simp [h, Addr.add]
def pxE (ps : List (List UInt8)) (m : Nat) : List Sess := ((ps.drop 1).take m).map px
theorem pxE_len {ps : List (List UInt8)} {m : Nat} (h : m + 1 ≤ ps.length) : (pxE ps m).length = m := by unfold pxE; rw [List.length_map, List.length_take, List.length_drop]; omega
theorem pxE_succ {ps : List (List UInt8)} {j : Nat} (h : j + 1 < ps.length) : pxE ps (j + 1) = pxE ps j ++ [px (ps.getD (j + 1) [])] := by
  unfold pxE
  have hl : j < (ps.drop 1).length := by rw [List.length_drop]; omega
  rw [List.take_succ_eq_append_getElem hl, List.map_append]
  congr 2
  rw [List.getElem_drop]
  simp [List.getD, h, Nat.add_comm 1 j]
theorem pxE_all {ps : List (List UInt8)} {m : Nat} (h : ps.length ≤ m + 1) : pxE ps m = (ps.drop 1).map px := by unfold pxE; rw [List.take_of_length_le (by rw [List.length_drop]; omega)]
theorem px_all {ps : List (List UInt8)} (h : ∀ j, j + 1 < ps.length → pxOk (ps.getD (j + 1) []) = true) : ∀ p ∈ ps.drop 1, pxOk p = true := fun p hp => by
  obtain ⟨j, hj, rfl⟩ := List.mem_iff_getElem.1 hp
  rw [List.length_drop] at hj
  have := h j (by omega)
  rw [List.getElem_drop]
  have e : ps.getD (j + 1) [] = ps[1 + j] := by simp [List.getD, show j + 1 < ps.length by omega, Nat.add_comm 1 j]
  rwa [e] at this
theorem px_bad {s : List UInt8} {O : List Int} (hO : ObjI ((wsI s).getD 0 []) O) {j : Nat} (h : j + 1 < (wsI s).length) (hk : pxOk ((wsI s).getD (j + 1) []) = false) : parMok s = false ∧ parMO s = [] ∧ parMX s = [] :=
  machine_no hO (fun hh => by
    have hm : (wsI s).getD (j + 1) [] ∈ (wsI s).drop 1 := by
      have hl : j < ((wsI s).drop 1).length := by rw [List.length_drop]; omega
      have e : (wsI s).getD (j + 1) [] = ((wsI s).drop 1)[j] := by
        rw [List.getElem_drop]
        simp [List.getD, h, Nat.add_comm 1 j]
      rw [e]
      exact List.getElem_mem hl
    have := hh.1 _ hm
    rw [hk] at this
    cases this)
theorem splitM (s : ByteArray) (w : World) (hs : s.size ≤ 1048576) (hM : Mx w) :
    Calls Tryz.prog 42 #[.string s, .string { data := #[32] }, .int .i64 4] w fun e w' => ∃ g cap, e = .returned (.slice (some ⟨g, 0, none⟩) (wsI s.data.toList).length cap) ∧ (wsI s.data.toList).length ≤ cap ∧ cap ≤ 4 ∧ w.heap.size ≤ g ∧
      PartsAt w' g (wsI s.data.toList) ∧ Below w.heap.size w w' := splitWordsK 32 3 (by omega) s w hs hM
set_option maxRecDepth 100000 in
set_option maxHeartbeats 16000000 in
theorem implParseMachine (s : ByteArray) (w : World) (hs : s.size ≤ 1048576) (hT : Tab w) (hM : Mx w) :
    Calls Tryz.prog 44 #[.string s] w fun e w' => ∃ u1 u2, e = .returned (.tuple #[.agg #[u1, u2], .bool (parMok s.data.toList)]) ∧ OwnI w.heap.size w' u1 (parMO s.data.toList) ∧ OwnS w.heap.size w' u2 (parMX s.data.toList) ∧ Below w.heap.size w w' := by
  have hl : s.data.toList.length = s.size := by rw [Array.length_toList]; rfl
  have hpl : ∀ j, ((wsI s.data.toList).getD j []).length ≤ 1048576 := fun j => by
    rcases Nat.lt_or_ge j (wsI s.data.toList).length with h | h
    · have hm : (wsI s.data.toList).getD j [] ∈ wsI s.data.toList := by simp [List.getD, h]
      have := split_mem 32 _ _ _ hm
      omega
    · simp [List.getD, h]
  have hp0 : 0 < (wsI s.data.toList).length := split_pos 32 3 s.data.toList
  obtain ⟨W, hW⟩ : ∃ W, W = w.alloc (.cells #[.slice none 0 0, .slice none 0 0] 30) := ⟨_, rfl⟩
  have HB := Lib.hid (show Below w.heap.size w W by rw [hW]; exact (Below.refl _ _).alloc (Nat.le_refl _) _)
  have HR := Lib.hid (show BoxC W w.heap.size 30 #[.slice none 0 0, .slice none 0 0] by rw [hW]; exact BoxC.new _ _ _)
  have hWs : W.heap.size = w.heap.size + 1 := by rw [hW]; simp
  have HW := Lib.hid hW
  have HT := Lib.hid (fun W' (h : Below w.heap.size w W') => hT.below h)
  have HM := Lib.hid (fun W' (h : Below w.heap.size w W') => hM.below h)
  have JC := Lib.hid (splitM s W hs (HM.out _ HB.out))
  have HBAD := Lib.hid (fun O (h : ObjI ((wsI s.data.toList).getD 0 []) O) j h1 h2 => px_bad (j := j) h h1 h2)
  have HYES := Lib.hid (fun O (h : ObjI ((wsI s.data.toList).getD 0 []) O) => machine_yes h)
  have HNO := Lib.hid (fun O (h : ObjI ((wsI s.data.toList).getD 0 []) O) => machine_no h)
  have HPL := Lib.hid hpl
  clear hl hW hT hM hpl
  go_enter Tryz.func44, Tryz.ntmps44
  go_wp2_with fail
  rw [← HW.out]
  refine JC.out.mono ?_
  rintro e w1 ⟨g, cap, rfl, hn, hc4, hgw, hp, hb⟩
  clear JC HW
  have HP := Lib.hid hp
  replace HR := Lib.hid (HR.out.later hb)
  have hg0 : w.heap.size ≤ w1.heap.size := by have := hb.size; omega
  replace HB := Lib.hid (HB.out.trans (hb.mono HB.out.size))
  clear hp hb
  generalize wsI s.data.toList = ps at *
  have hcell := HP.out.2 0 hp0
  have hq0 := HPL.out 0
  obtain ⟨sb, hsb⟩ : ∃ sb : ByteArray, sb.data.toList = ps.getD 0 [] := ⟨⟨(ps.getD 0 []).toArray⟩, by simp⟩
  have e1 : str (ps.getD 0 []) = .string sb := by rw [← hsb]
  rw [e1] at hcell
  rw [← hsb] at hq0 HBAD HYES HNO
  rw [Array.length_toList] at hq0
  have JO := Lib.hid (implParseObjects sb w1 hq0)
  obtain ⟨n1, hn1⟩ : ∃ n1, ps.length = n1 + 1 := ⟨ps.length - 1, by omega⟩
  obtain ⟨c1, hc1⟩ : ∃ c1, cap = c1 + 1 := ⟨cap - 1, by omega⟩
  subst hc1
  obtain ⟨A, hA⟩ : ∃ A, A = (if c1 = 0 then 0 else 1) := ⟨_, rfl⟩
  have HA := Lib.hid (show 0 < n1 → A = 1 from fun h => by rw [hA, if_neg (by omega)])
  have RS := fun W => run_behind W g n1 c1
  rw [← hA] at RS
  have HN1 := Lib.hid hn1
  have hn3 : n1 ≤ 3 := by omega
  rw [hn1]
  clear hA hn1 hn hc4
  clear hsb e1 hq0
  go_wp2_with fail
  refine JO.out.mono ?_
  rintro e w2 ⟨u1, O, rfl, ho, hO, hol, hb⟩
  obtain ⟨ua, uc, rfl⟩ := ho.shape
  have hbA := (Below.refl w2.heap.size w2).alloc (Nat.le_refl _) (.cells #[.slice ua O.length uc, .slice none 0 0] 30)
  have HMB := Lib.hid (BoxC.new w2 30 #[.slice ua O.length uc, .slice none 0 0])
  replace HP := Lib.hid ((HP.out.later hb).later hbA)
  have hs2 : w.heap.size < w2.heap.size := Nat.lt_of_lt_of_le HR.out.lt hb.size
  replace HR := Lib.hid ((HR.out.later hb).later hbA)
  replace HB := Lib.hid ((HB.out.trans (hb.mono HB.out.size)).trans (hbA.mono (Nat.le_of_lt hs2)))
  have HO := Lib.hid (((OwnI.mono ho hg0)).later hbA)
  replace HBAD := Lib.hid (HBAD.out O hO)
  replace HYES := Lib.hid (HYES.out O hO)
  replace HNO := Lib.hid (HNO.out O hO)
  clear ho hb hbA JO hO hcell
  obtain ⟨pm, hpm⟩ : ∃ q, q = w2.heap.size := ⟨_, rfl⟩
  obtain ⟨w3, hw3⟩ : ∃ q, q = w2.alloc (.cells #[.slice ua O.length uc, .slice none 0 0] 30) := ⟨_, rfl⟩
  rw [← hw3] at HP HR HB HO HMB
  rw [← hpm] at HMB hs2
  have HW3 := Lib.hid hw3
  have HPM := Lib.hid hpm
  have hne : w.heap.size ≠ pm := Nat.ne_of_lt hs2
  have hpb : w.heap.size ≤ pm := Nat.le_of_lt hs2
  clear hw3 hpm
  go_wp2_with fail
  rw [← HW3.out, ← HPM.out]
  clear HW3 HPM
  go_wp2_with fail
  go_loopw [20] (fun i wr => ∃ (k : Nat) (u2 : Value), k ≤ n1 ∧ i = .int .i64 k ∧ Hid (BoxC wr pm 30 #[.slice ua O.length uc, u2]) ∧ Hid (OwnI w.heap.size wr (.slice ua O.length uc) O) ∧ Hid (OwnS w.heap.size wr u2 (pxE ps k)) ∧ Hid (∀ j, j < k → pxOk (ps.getD (j + 1) []) = true) ∧ Hid (PartsAt wr g ps) ∧ Hid (BoxC wr w.heap.size 30 #[.slice none 0 0, .slice none 0 0]) ∧ Hid (Below w.heap.size w wr)) (fun i _ => n1 - (intOf i).toNat)
  case atStart => exact ⟨0, _, Nat.zero_le _, rfl, HMB, HO, Lib.hid (World.ownsRow_nil _ _ _ _), Lib.hid (fun j hj => by omega), HP, HR, HB⟩
  clear HMB HO HP HR HB
  case round =>
    obtain ⟨k, u2, hk, rfl, HMB, HO, HOS, HJ, HP, HR, HB⟩ := hrel
    obtain ⟨xa, xc, rfl⟩ := HOS.out.shape
    have hlx := pxE_len (ps := ps) (m := k) (by have := HN1.out; omega)
    have HM' := HMB.out
    have HO' := HOS.out
    rw [hlx] at HM' HO'
    replace HMB := Lib.hid HM'
    replace HOS := Lib.hid HO'
    clear HM' HO'
    have k3 : (0 : Int) ≤ (k : Int) := by omega
    by_cases hlt1 : k < n1
    · have hA1 := HA.out (by omega)
      subst hA1
      have hlt : k + 1 < ps.length := by have := HN1.out; omega
      have k6 : (k : Int) < (n1 : Int) := by omega
      have HX := Lib.hid (show pxE ps (k + 1) = pxE ps k ++ [px (ps.getD (1 + k) [])] by rw [Nat.add_comm 1 k]; exact pxE_succ hlt)
      have hcj := HP.out.2 (k + 1) hlt
      rw [Nat.add_comm k 1] at hcj
      have hsj := HPL.out (1 + k)
      have HBK := Lib.hid (HBAD.out k hlt)
      have HJS := Lib.hid (fun (h : pxOk (ps.getD (1 + k) []) = true) (j : Nat) (hj : j < k + 1) => show pxOk (ps.getD (j + 1) []) = true by
        by_cases e : j = k
        · rw [e, Nat.add_comm k 1]; exact h
        · exact HJ.out j (by omega))
      rw [Nat.add_comm k 1] at HBK
      have JE := Lib.hid (implParseSession (ps.getD (1 + k) []) wr hsj (HT.out _ HB.out) (HM.out _ HB.out))
      generalize ps.getD (1 + k) [] = p at *
      cases hq : pxOk p with
      | false =>
        have HF := Lib.hid (HBK.out hq)
        rw [hq, pxV_no hq] at JE
        clear hq
        go_wp2_with fail
        refine JE.out.mono ?_
        rintro e w5 ⟨rfl, hb⟩
        have hbA := (Below.refl w5.heap.size w5).alloc (Nat.le_refl _) (.cells #[.int .i64 0, .int .i64 0, .bool false, .int .i64 0] 120)
        replace HR := Lib.hid ((HR.out.later hb).later hbA)
        replace HB := Lib.hid ((HB.out.trans (hb.mono HB.out.size)).trans (hbA.mono (Nat.le_trans HB.out.size hb.size)))
        clear hb JE hbA hcj
        have r0 := HR.out.c 0 rfl
        have r1 := HR.out.c 1 rfl
        have f0 := HR.out.f 0
        have f1 := HR.out.f 1
        go_wp2_with fail
        refine bodyPost_ret (v := .tuple #[.agg #[.slice none 0 0, .slice none 0 0], .bool false]) (by simp [results, Tryz.results44, go_sem, r0, r1]) rfl ?_
        exact ⟨_, _, by rw [HF.out.1], by rw [HF.out.2.1]; exact World.ownsRow_nil _ _ _ _, by rw [HF.out.2.2]; exact World.ownsRow_nil _ _ _ _, (HB.out.setCell (p := ⟨w.heap.size, 0, none⟩) (Nat.le_refl _) _).setCell (p := ⟨w.heap.size, 1, none⟩) (Nat.le_refl _) _⟩
      | true =>
        replace HJS := Lib.hid (HJS.out hq)
        rw [hq, pxV_yes hq] at JE
        obtain ⟨xx, xs, xd, xv, hx⟩ : ∃ a b c d, px p = (a, b, c, d) := ⟨_, _, _, _, rfl⟩
        rw [hx] at JE HX
        unfold sessV at JE
        simp only at JE
        clear hq hx hsj HBK HJ
        go_wp2_with fail
        refine JE.out.mono ?_
        rintro e w5 ⟨rfl, hb⟩
        have hbA := (Below.refl w5.heap.size w5).alloc (Nat.le_refl _) (.cells #[.int .i64 xx, .int .i64 xs, .bool xd, .int .i64 xv] 120)
        replace HMB := Lib.hid ((HMB.out.later hb).later hbA)
        replace HO := Lib.hid ((HO.out.later hb).later hbA)
        replace HOS := Lib.hid ((HOS.out.later hb).later hbA)
        replace HP := Lib.hid ((HP.out.later hb).later hbA)
        replace HR := Lib.hid ((HR.out.later hb).later hbA)
        replace HB := Lib.hid ((HB.out.trans (hb.mono HB.out.size)).trans (hbA.mono (Nat.le_trans HB.out.size hb.size)))
        have r0 := HMB.out.c 0 rfl
        have r1 := HMB.out.c 1 rfl
        clear hb hbA JE hcj
        have hbL := (Below.refl (w5.alloc (.cells #[.int .i64 xx, .int .i64 xs, .bool xd, .int .i64 xv] 120)).heap.size (w5.alloc (.cells #[.int .i64 xx, .int .i64 xs, .bool xd, .int .i64 xv] 120))).alloc (Nat.le_refl _) (.cells #[.int .i64 xx, .int .i64 xs, .bool xd, .int .i64 xv] 120)
        have hlit := SrcS.lit (w5.alloc (.cells #[.int .i64 xx, .int .i64 xs, .bool xd, .int .i64 xv] 120)) (xx, xs, xd, xv)
        simp only [World.size_alloc] at hlit
        have HML := Lib.hid (HMB.out.later hbL)
        have HOL := Lib.hid (HO.out.later hbL)
        have HOSL := Lib.hid (HOS.out.later hbL)
        have HPL2 := Lib.hid (HP.out.later hbL)
        have HRL := Lib.hid (HR.out.later hbL)
        have HBL := Lib.hid (HB.out.trans (hbL.mono HB.out.size))
        have hs2 := HBL.out.size
        simp only [World.size_alloc] at hs2
        clear hbL
        go_wp2_with (at_builtin; refine wpList_appS rfl (.tmp 33) (.tmp 35) rfl w.heap.size _ (pxE ps k) rfl HOSL.out _ _ [(xx, xs, xd, xv)] rfl hlit (by rw [hlx]; simp; omega) (by simp; omega) ?_; intro v' w6 ho6 hb6 hg6; have HM6 := Lib.hid (HML.out.past (by decide) HOSL.out.row hg6); have HO6 := Lib.hid (rows_past HOL.out.row HOSL.out.row (by decide) hg6); have HP6 := Lib.hid (HPL2.out.past (by decide) HOSL.out.row hg6); have HR6 := Lib.hid (HRL.out.past (by decide) HOSL.out.row hg6); have HB6 := Lib.hid (HBL.out.trans hb6); rw [← HX.out] at ho6; obtain ⟨va, vc, hv6⟩ := ho6.shape; rw [pxE_len (ps := ps) (m := k + 1) hlt] at hv6; subst hv6; have s0 := HM6.out.c 0 rfl; have s1 := HM6.out.c 1 rfl; have sf := HM6.out.f 1)
        have HM7 := Lib.hid (HM6.out.put 1 (.slice va (k + 1) vc))
        have HO7 := Lib.hid (row_put HO6.out HM6.out (by decide) 1 (.slice va (k + 1) vc))
        have HOS7 := Lib.hid (row_put ho6.row HM6.out (by decide) 1 (.slice va (k + 1) vc))
        have HP7 := Lib.hid (HP6.out.put HM6.out (by decide) 1 (.slice va (k + 1) vc))
        have HR7 := Lib.hid (HR6.out.keep hne 1 (.slice va (k + 1) vc))
        have HB7 := Lib.hid (HB6.out.setCell (p := ⟨pm, 1, none⟩) hpb (.slice va (k + 1) vc))
        go_roundw
        case rel => exact ⟨k + 1, _, by omega, by go_num, HM7, HO7, HOS7, HJS, HP7, HR7, HB7⟩
        case measure => simp [intOf]; omega
    · have HAL := Lib.hid (pxE_all (ps := ps) (m := k) (by have := HN1.out; omega))
      have HJA := Lib.hid (px_all (ps := ps) (fun j hj => HJ.out j (by have := HN1.out; omega)))
      obtain ⟨ya, yc, hv1, _, _, t1, _⟩ := HO.out.form
      have t2 := HOS.out
      obtain ⟨za, zc, hv2, _, _, t2', _⟩ := t2.form
      injection hv1 with hv1a hv1b hv1c
      injection hv2 with hv2a hv2b hv2c
      subst hv1a hv1c hv2a hv2c
      have hll : (pxE ps k).length ≤ 4194304 := by rw [hlx]; omega
      have JI := implIsValidMachineA ua uc O xa xc (pxE ps k) wr (by omega) hll t1 t2'
      have r0 := HMB.out.c 0 rfl
      have r1 := HMB.out.c 1 rfl
      have q0 := HR.out.c 0 rfl
      have q1' := HR.out.c 1 rfl
      obtain rfl : k = n1 := by omega
      clear t1 t2 t2' hv1b hv2b hll hlt1
      by_cases hmk : MOk O (pxE ps k)
      · rw [decide_eq_true hmk] at JI
        rw [hlx] at JI
        have JI := Lib.hid JI
        have HF := Lib.hid (by rw [HAL.out] at hmk; exact HYES.out HJA.out hmk)
        rw [← HAL.out] at HF
        clear hmk
        go_wp2_with fail
        refine JI.out.mono ?_
        rintro e w6 ⟨rfl, hb⟩
        replace HMB := Lib.hid (HMB.out.later hb)
        replace HO := Lib.hid (HO.out.later hb)
        replace HOS := Lib.hid (HOS.out.later hb)
        replace HR := Lib.hid (HR.out.later hb)
        replace HB := Lib.hid (HB.out.trans (hb.mono HB.out.size))
        clear hb JI r0 r1 q0 q1'
        have r0 := HMB.out.c 0 rfl
        have r1 := HMB.out.c 1 rfl
        have q0 := HR.out.c 0 rfl
        have q1' := HR.out.c 1 rfl
        have f0 := HR.out.f 0
        have f1 := HR.out.f 1
        go_wp2_with fail
        refine bodyPost_ret (v := .tuple #[.agg #[.slice ua O.length uc, .slice xa k xc], .bool true]) (by simp [results, Tryz.results44, go_sem, q0, q1']) rfl ?_
        exact ⟨_, _, by rw [HF.out.1], by rw [HF.out.2.1]; exact row_put (row_put HO.out.row HR.out (by decide) 0 _) (HR.out.put 0 _) (by decide) 1 _, by rw [HF.out.2.2]; exact row_put (row_put HOS.out.row HR.out (by decide) 0 _) (HR.out.put 0 _) (by decide) 1 _, (HB.out.setCell (p := ⟨w.heap.size, 0, none⟩) (Nat.le_refl _) _).setCell (p := ⟨w.heap.size, 1, none⟩) (Nat.le_refl _) _⟩
      · rw [decide_eq_false hmk] at JI
        rw [hlx] at JI
        have JI := Lib.hid JI
        have HF := Lib.hid (HNO.out (fun h => hmk (by rw [HAL.out]; exact h.2)))
        clear hmk
        go_wp2_with fail
        refine JI.out.mono ?_
        rintro e w6 ⟨rfl, hb⟩
        replace HR := Lib.hid (HR.out.later hb)
        replace HB := Lib.hid (HB.out.trans (hb.mono HB.out.size))
        clear hb JI r0 r1 q0 q1'
        have r0 := HR.out.c 0 rfl
        have r1 := HR.out.c 1 rfl
        have f0 := HR.out.f 0
        have f1 := HR.out.f 1
        go_wp2_with fail
        refine bodyPost_ret (v := .tuple #[.agg #[.slice none 0 0, .slice none 0 0], .bool false]) (by simp [results, Tryz.results44, go_sem, r0, r1]) rfl ?_
        exact ⟨_, _, by rw [HF.out.1], by rw [HF.out.2.1]; exact World.ownsRow_nil _ _ _ _, by rw [HF.out.2.2]; exact World.ownsRow_nil _ _ _ _, (HB.out.setCell (p := ⟨w.heap.size, 0, none⟩) (Nat.le_refl _) _).setCell (p := ⟨w.heap.size, 1, none⟩) (Nat.le_refl _) _⟩
end Go.Proofs.YtpdpejlcilnafaaGreatDoor.kit
namespace Go.Proofs.YtpdpejlcilnafaaGreatDoor.kit
open Go.ChangeShapes Go.WideShapes Go.ChangeAt Go.RowKit
set_option linter.unusedVariables false
set_option linter.unusedSimpArgs false

theorem splitN (s : ByteArray) (w : World) (hs : s.size ≤ 1048576) (hM : Mx w) :
    Calls Tryz.prog 42 #[.string s, .string { data := #[44] }, .int .i64 3] w fun e w' => ∃ g cap, e = .returned (.slice (some ⟨g, 0, none⟩) (wordsN s.data.toList).length cap) ∧ (wordsN s.data.toList).length ≤ cap ∧ cap ≤ 3 ∧ w.heap.size ≤ g ∧
      PartsAt w' g (wordsN s.data.toList) ∧ Below w.heap.size w w' := splitWordsK 44 2 (by omega) s w hs hM
set_option maxRecDepth 100000 in
set_option maxHeartbeats 16000000 in
theorem implParseSnapshot (s : ByteArray) (w : World) (hs : s.size ≤ 1048576) (hT : Tab w) (hM : Mx w) :
    Calls Tryz.prog 12 #[.string s] w fun e w' => ∃ u1 u2, e = .returned (.tuple #[.agg #[.int .i64 (parNx s.data.toList), .int .i64 (parNy s.data.toList), u1, u2], .bool (parNok s.data.toList)]) ∧ OwnI w.heap.size w' u1 (parNO s.data.toList) ∧ OwnS w.heap.size w' u2 (parNX s.data.toList) ∧ Below w.heap.size w w' := by
  have hl : s.data.toList.length = s.size := by rw [Array.length_toList]; rfl
  have hpl : ∀ j, ((wordsN s.data.toList).getD j []).length ≤ s.size := fun j => by
    rcases Nat.lt_or_ge j (wordsN s.data.toList).length with h | h
    · have hm : (wordsN s.data.toList).getD j [] ∈ wordsN s.data.toList := by simp [List.getD, h]
      have := split_mem 44 _ _ _ hm
      omega
    · simp [List.getD, h]
  obtain ⟨W, hW⟩ : ∃ W, W = w.alloc (.cells #[.int .i64 0, .int .i64 0, .slice none 0 0, .slice none 0 0] 32) := ⟨_, rfl⟩
  have HB := Lib.hid (show Below w.heap.size w W by rw [hW]; exact (Below.refl _ _).alloc (Nat.le_refl _) _)
  have HR := Lib.hid (show BoxC W w.heap.size 32 #[.int .i64 0, .int .i64 0, .slice none 0 0, .slice none 0 0] by rw [hW]; exact BoxC.new _ _ _)
  have hWs : W.heap.size = w.heap.size + 1 := by rw [hW]; simp
  have HW := Lib.hid hW
  have HT := Lib.hid (fun W' (h : Below w.heap.size w W') => hT.below h)
  have HMX := Lib.hid (fun W' (h : Below w.heap.size w W') => hM.below h)
  have JC := Lib.hid (splitN s W hs (hM.below HB.out))
  have HYES := Lib.hid (fun h => snap_yes (s := s.data.toList) h)
  have HNO := Lib.hid (fun h => parN_no (snap_no (s := s.data.toList) h))
  have HY' := Lib.hid (fun h => parN_yes (s := s.data.toList) h)
  clear hl hW hT hM
  go_enter Tryz.func12, Tryz.ntmps12
  go_wp2_with fail
  rw [← HW.out]
  refine JC.out.mono ?_
  rintro e w1 ⟨g, cap, rfl, hn, hc4, hgw, hp, hb⟩
  clear JC HW
  have HP := Lib.hid hp
  replace HR := Lib.hid (HR.out.later hb)
  have hg0 : w.heap.size ≤ w1.heap.size := by have := hb.size; omega
  replace HB := Lib.hid (HB.out.trans (hb.mono HB.out.size))
  clear hp hb
  generalize wordsN s.data.toList = ps at *
  by_cases h4 : ps.length = 3
  · obtain ⟨p0, p1, p2, rfl⟩ := three h4
    have hq0 := hpl 0
    have hq1 := hpl 1
    have hq2 := hpl 2
    simp only [List.getD_cons_zero, List.getD_cons_succ] at hq0 hq1 hq2
    have hp0' : p0.length ≤ 1048576 := Nat.le_trans hq0 hs
    have hp1 : p1.length ≤ 1048576 := Nat.le_trans hq1 hs
    have hp2 : p2.length ≤ 1048576 := Nat.le_trans hq2 hs
    have HL := Lib.hid (show [p0, p1, p2].length = 3 from rfl)
    rw [HL.out] at hn
    have hc2 : (2 : Int) ≤ (cap : Int) := by omega
    have hc2' : 2 ≤ cap := by omega
    rw [HL.out]
    have HG := Lib.hid (show goodN [p0, p1, p2] ↔ (allPar [p0, p1] = true ∧ parMok p2 = true ∧ NOk (parN p0) (parN p1) (parMO p2) (parMX p2)) from ⟨fun h => h.2, fun h => ⟨rfl, h⟩⟩)
    replace HYES := Lib.hid (show NOk (parN p0) (parN p1) (parMO p2) (parMX p2) → allPar [p0, p1] = true → parMok p2 = true → okPN s.data.toList ∧ nx s.data.toList = parN p0 ∧ ny s.data.toList = parN p1 ∧ nO s.data.toList = parMO p2 ∧ nX s.data.toList = parMX p2 from fun a b c => HYES.out (HG.out.2 ⟨b, c, a⟩))
    have j2 := fun W (h : Below w.heap.size w W) => implParseMachine ⟨p2.toArray⟩ W (by rw [size_mk]; exact hp2) (HT.out _ h) (HMX.out _ h)
    simp only at j2
    have l1 := parMO_len p2
    have l2 := parMX_len p2
    have hat : AtP w1 (some ⟨g, 0, none⟩) [p0, p1] := fun j hj => by
      refine ⟨_, rfl, HP.out.lt, ?_⟩
      have hadd : (⟨g, 0, none⟩ : Addr).add j = ⟨g, j, none⟩ := by unfold Addr.add; split <;> simp_all
      rw [hadd]
      match j, hj with
      | 0, _ => exact HP.out.2 0 (by rw [HL.out]; decide)
      | 1, _ => exact HP.out.2 1 (by rw [HL.out]; decide)
    have JP := Lib.hid (parseInts (some ⟨g, 0, none⟩) 2 cap [p0, p1] w1 rfl (by omega) (fun j => by
      match j with
      | 0 => exact hp0'
      | 1 => exact hp1
      | n + 2 => simp) hat (HT.out _ HB.out))
    have hnum : allPar [p0, p1] = true → numsOf [p0, p1] = [parN p0, parN p1] := fun h => by unfold numsOf; rw [if_pos h]; rfl
    have HNUM := Lib.hid hnum
    generalize parN p0 = X at *
    generalize parN p1 = Y at *
    generalize parMO p2 = R1 at *
    generalize parMX p2 = R2 at *
    have J2 := Lib.hid j2
    clear h4 hq0 hq1 hq2 hpl j2 hat hnum
    go_wp2_with fail
    refine JP.out.mono ?_
    rintro e wa ⟨vn, rfl, hon, hbn⟩
    have HON := Lib.hid hon
    replace HP := Lib.hid (HP.out.later hbn)
    replace HR := Lib.hid (HR.out.later hbn)
    replace HB := Lib.hid (HB.out.trans (hbn.mono hg0))
    have hga := Nat.le_trans hg0 hbn.size
    obtain ⟨na, nc, rfl⟩ := hon.shape
    have c2' := HP.out.2 2 (by rw [HL.out]; decide)
    simp only [List.getD_cons_zero, List.getD_cons_succ] at c2'
    clear hon hbn JP
    go_wp2_with fail
    refine (J2.out _ HB.out).mono ?_
    rintro e w2 ⟨v2, v3, rfl, ho2, ho3, hb2⟩
    obtain ⟨ra, rc, rfl⟩ := ho2.shape
    obtain ⟨qa, qc, rfl⟩ := ho3.shape
    have hbA := (Below.refl w2.heap.size w2).alloc (Nat.le_refl _) (.cells #[.slice ra R1.length rc, .slice qa R2.length qc] 30)
    have HMB := Lib.hid (BoxC.new w2 30 #[.slice ra R1.length rc, .slice qa R2.length qc])
    have HO2 := Lib.hid ((ho2.mono hga).later hbA)
    have HO3 := Lib.hid ((ho3.mono hga).later hbA)
    replace HON := Lib.hid ((HON.out.later hb2).later hbA)
    replace HR := Lib.hid ((HR.out.later hb2).later hbA)
    replace HB := Lib.hid ((HB.out.trans (hb2.mono hga)).trans (hbA.mono (Nat.le_trans hga hb2.size)))
    have hg3 := HB.out.size
    obtain ⟨pm, hpm⟩ : ∃ q, q = w2.heap.size := ⟨_, rfl⟩
    obtain ⟨w3, hw3⟩ : ∃ q, q = w2.alloc (.cells #[.slice ra R1.length rc, .slice qa R2.length qc] 30) := ⟨_, rfl⟩
    rw [← hw3] at HR HB HO2 HO3 HON HMB hg3
    rw [← hpm] at HMB
    have HW3 := Lib.hid hw3
    have HPM := Lib.hid hpm
    clear ho2 ho3 hb2 hbA J2 c2' HP hw3 hpm
    go_upto_region 6 with (fail)
    rw [← HW3.out, ← HPM.out]
    clear HW3 HPM
    cases ea : allPar [p0, p1] with
    | false =>
      have eb : True := trivial
      have HF := Lib.hid (HNO.out (fun h => by have h' := HG.out.1 h; simp [ea, eb] at h'))
      clear ea eb
      have r0 := HR.out.c 0 rfl
      have r1 := HR.out.c 1 rfl
      have r2 := HR.out.c 2 rfl
      have r3 := HR.out.c 3 rfl
      have f0 := HR.out.f 0
      have f1 := HR.out.f 1
      have f2 := HR.out.f 2
      have f3 := HR.out.f 3
      go_wp2_with fail
      refine bodyPost_ret (v := .tuple #[.agg #[.int .i64 0, .int .i64 0, .slice none 0 0, .slice none 0 0], .bool false]) (by simp [results, Tryz.results12, go_sem, r0, r1, r2, r3]) rfl ?_
      refine ⟨_, _, by rw [HF.out.1, HF.out.2.1, HF.out.2.2.1], by rw [HF.out.2.2.2.1]; exact World.ownsRow_nil _ _ _ _, by rw [HF.out.2.2.2.2]; exact World.ownsRow_nil _ _ _ _, ?_⟩
      exact
        (((HB.out.setCell (p := ⟨w.heap.size, 0, none⟩) (Nat.le_refl _) _).setCell (p := ⟨w.heap.size, 1, none⟩) (Nat.le_refl _) _).setCell (p := ⟨w.heap.size, 2, none⟩) (Nat.le_refl _) _).setCell (p := ⟨w.heap.size, 3, none⟩) (Nat.le_refl _) _
    | true =>
      cases eb : parMok p2 with
      | false =>
        have HF := Lib.hid (HNO.out (fun h => by have h' := HG.out.1 h; simp [ea, eb] at h'))
        clear ea eb
        have r0 := HR.out.c 0 rfl
        have r1 := HR.out.c 1 rfl
        have r2 := HR.out.c 2 rfl
        have r3 := HR.out.c 3 rfl
        have f0 := HR.out.f 0
        have f1 := HR.out.f 1
        have f2 := HR.out.f 2
        have f3 := HR.out.f 3
        go_wp2_with fail
        refine bodyPost_ret (v := .tuple #[.agg #[.int .i64 0, .int .i64 0, .slice none 0 0, .slice none 0 0], .bool false]) (by simp [results, Tryz.results12, go_sem, r0, r1, r2, r3]) rfl ?_
        refine ⟨_, _, by rw [HF.out.1, HF.out.2.1, HF.out.2.2.1], by rw [HF.out.2.2.2.1]; exact World.ownsRow_nil _ _ _ _, by rw [HF.out.2.2.2.2]; exact World.ownsRow_nil _ _ _ _, ?_⟩
        exact
          (((HB.out.setCell (p := ⟨w.heap.size, 0, none⟩) (Nat.le_refl _) _).setCell (p := ⟨w.heap.size, 1, none⟩) (Nat.le_refl _) _).setCell (p := ⟨w.heap.size, 2, none⟩) (Nat.le_refl _) _).setCell (p := ⟨w.heap.size, 3, none⟩) (Nat.le_refl _) _
      | true =>
        replace HON := Lib.hid (by have h := HON.out; rw [HNUM.out ea] at h; exact h)
        obtain ⟨ng, nc', hsh, hnc, hncm, hng, hn0, hn1⟩ := HON.out.two
        have hv : numsOf [p0, p1] = [X, Y] := HNUM.out ea
        injection hsh with hs1 hs2 hs3
        subst hs1
        rw [hv]
        rw [show [X, Y].length = 2 from rfl]
        have HLN := Lib.hid hncm
        have HBAD := Lib.hid (show ¬ NOk X Y R1 R2 → parNok s.data.toList = false ∧ parNx s.data.toList = 0 ∧ parNy s.data.toList = 0 ∧ parNO s.data.toList = [] ∧ parNX s.data.toList = [] from fun h => HNO.out (fun h' => h (HG.out.1 h').2.2))
        have HGOOD := Lib.hid (show NOk X Y R1 R2 → parNok s.data.toList = true ∧ parNx s.data.toList = X ∧ parNy s.data.toList = Y ∧ parNO s.data.toList = R1 ∧ parNX s.data.toList = R2 from fun h => by
          obtain ⟨h1, h2, h3, h4, h5⟩ := HYES.out h ea eb
          obtain ⟨k1, k2, k3, k4, k5⟩ := HY'.out h1
          exact ⟨k1, k2.trans h2, k3.trans h3, k4.trans h4, k5.trans h5⟩)
        clear hv hncm hs2 hs3 ea eb HYES HNO HY' HG HNUM
        go_wp2_with fail
        obtain ⟨w4, rfl⟩ : ∃ q, q = w3 := ⟨_, rfl⟩
        have hR4 := HR.out.lt
        go_upto_region 8 with (fail)
        go_cut [9] (fun b wx => ∃ p, b = .pointer (some ⟨p, 0, none⟩) ∧ BoxC wx p 32 #[.int .i64 X, .int .i64 Y, .slice ra R1.length rc, .slice qa R2.length qc] ∧ w4.heap.size ≤ p ∧ Below w4.heap.size w4 wx)
        case first =>
          refine region_inv (m := 9) [36, 37, 38, 39, 40, 41, 42, 43, 9] [] (Fs [isV (.slice (some ⟨ng, 0, none⟩) 2 nc), isV (.pointer (some ⟨ng, 0, none⟩)), isV (.int .i64 X), isV (.slice (some ⟨ng, 0, none⟩) 2 nc), isV (.pointer (some ⟨ng, 1, none⟩)), isV (.int .i64 Y), isV (.agg #[.slice ra R1.length rc, .slice qa R2.length qc]), isV (.agg #[.int .i64 X, .int .i64 Y, .slice ra R1.length rc, .slice qa R2.length qc]), isC (w4.heap.size) 32 #[.int .i64 0, .int .i64 0, .slice none 0 0, .slice none 0 0]]) (by kernel_rfl) (by decide) rfl (by decide) (by kernel_rfl) (by kernel_rfl) (by kernel_rfl) (fun _ _ _ _ _ h => h) (Fs_mono ⟨isV_mono _, isV_mono _, isV_mono _, isV_mono _, isV_mono _, isV_mono _, isV_mono _, isV_mono _, isC_mono _ _ _, trivial⟩) ?step ?float ?tail
          case float =>
            intro f hf
            cases hf
          case step =>
            intro i hi vs wq hBq hd
            rcases (show i = 0 ∨ i = 1 ∨ i = 2 ∨ i = 3 ∨ i = 4 ∨ i = 5 ∨ i = 6 ∨ i = 7 ∨ i = 8 from by omega) with rfl | rfl | rfl | rfl | rfl | rfl | rfl | rfl | rfl
            · refine wpOp_step (o := _) rfl (fun K' hK => ?_)
              have HK := Lib.hid hK
              clear hK
              simp only [lay, Act.put, List.setIfInBounds_toArray, List.set_cons_zero, List.set_cons_succ, List.getD_cons_zero, List.getD_cons_succ, id_eq]
              go_simp
              refine HK.out _ _ ⟨_, ?_, Below.refl _ _, rfl⟩
              simp only [lay, Act.put, List.setIfInBounds_toArray, List.set_cons_zero, List.set_cons_succ, List.getD_cons_zero, List.getD_cons_succ, id_eq]
            · have e0' : vs 0 = .slice (some ⟨ng, 0, none⟩) 2 nc := hd 0 (List.contains_iff_mem.1 (by kernel_rfl))
              refine wpOp_step (o := _) rfl (fun K' hK => ?_)
              have HK := Lib.hid hK
              clear hK
              simp only [lay, Act.put, List.setIfInBounds_toArray, List.set_cons_zero, List.set_cons_succ, List.getD_cons_zero, List.getD_cons_succ, id_eq]
              rw [e0']
              go_simp
              refine HK.out _ _ ⟨_, ?_, Below.refl _ _, rfl⟩
              simp only [lay, Act.put, List.setIfInBounds_toArray, List.set_cons_zero, List.set_cons_succ, List.getD_cons_zero, List.getD_cons_succ, id_eq]
              rw [e0']
            · have e1' : vs 1 = .pointer (some ⟨ng, 0, none⟩) := hd 1 (List.contains_iff_mem.1 (by kernel_rfl))
              have z0 := (hBq.cell (p := ⟨ng, 0, none⟩) hng).trans hn0
              refine wpOp_step (o := _) rfl (fun K' hK => ?_)
              have HK := Lib.hid hK
              clear hK
              simp only [lay, Act.put, List.setIfInBounds_toArray, List.set_cons_zero, List.set_cons_succ, List.getD_cons_zero, List.getD_cons_succ, id_eq]
              rw [e1']
              go_simp
              refine HK.out _ _ ⟨_, ?_, Below.refl _ _, rfl⟩
              simp only [lay, Act.put, List.setIfInBounds_toArray, List.set_cons_zero, List.set_cons_succ, List.getD_cons_zero, List.getD_cons_succ, id_eq]
              rw [e1']
            · refine wpOp_step (o := _) rfl (fun K' hK => ?_)
              have HK := Lib.hid hK
              clear hK
              simp only [lay, Act.put, List.setIfInBounds_toArray, List.set_cons_zero, List.set_cons_succ, List.getD_cons_zero, List.getD_cons_succ, id_eq]
              go_simp
              refine HK.out _ _ ⟨_, ?_, Below.refl _ _, rfl⟩
              simp only [lay, Act.put, List.setIfInBounds_toArray, List.set_cons_zero, List.set_cons_succ, List.getD_cons_zero, List.getD_cons_succ, id_eq]
            · have e3' : vs 3 = .slice (some ⟨ng, 0, none⟩) 2 nc := hd 3 (List.contains_iff_mem.1 (by kernel_rfl))
              refine wpOp_step (o := _) rfl (fun K' hK => ?_)
              have HK := Lib.hid hK
              clear hK
              simp only [lay, Act.put, List.setIfInBounds_toArray, List.set_cons_zero, List.set_cons_succ, List.getD_cons_zero, List.getD_cons_succ, id_eq]
              rw [e3']
              go_simp
              refine HK.out _ _ ⟨_, ?_, Below.refl _ _, rfl⟩
              simp only [lay, Act.put, List.setIfInBounds_toArray, List.set_cons_zero, List.set_cons_succ, List.getD_cons_zero, List.getD_cons_succ, id_eq]
              rw [e3']
            · have e4' : vs 4 = .pointer (some ⟨ng, 1, none⟩) := hd 4 (List.contains_iff_mem.1 (by kernel_rfl))
              have z0 := (hBq.cell (p := ⟨ng, 1, none⟩) hng).trans hn1
              refine wpOp_step (o := _) rfl (fun K' hK => ?_)
              have HK := Lib.hid hK
              clear hK
              simp only [lay, Act.put, List.setIfInBounds_toArray, List.set_cons_zero, List.set_cons_succ, List.getD_cons_zero, List.getD_cons_succ, id_eq]
              rw [e4']
              go_simp
              refine HK.out _ _ ⟨_, ?_, Below.refl _ _, rfl⟩
              simp only [lay, Act.put, List.setIfInBounds_toArray, List.set_cons_zero, List.set_cons_succ, List.getD_cons_zero, List.getD_cons_succ, id_eq]
              rw [e4']
            · have z0 := (HMB.out.later hBq).c 0 rfl
              have z1 := (HMB.out.later hBq).c 1 rfl
              refine wpOp_step (o := _) rfl (fun K' hK => ?_)
              have HK := Lib.hid hK
              clear hK
              simp only [lay, Act.put, List.setIfInBounds_toArray, List.set_cons_zero, List.set_cons_succ, List.getD_cons_zero, List.getD_cons_succ, id_eq]
              go_simp
              refine HK.out _ _ ⟨_, ?_, Below.refl _ _, rfl⟩
              simp only [lay, Act.put, List.setIfInBounds_toArray, List.set_cons_zero, List.set_cons_succ, List.getD_cons_zero, List.getD_cons_succ, id_eq]
            · have e2' : vs 2 = .int .i64 X := hd 2 (List.contains_iff_mem.1 (by kernel_rfl))
              have e5' : vs 5 = .int .i64 Y := hd 5 (List.contains_iff_mem.1 (by kernel_rfl))
              have e6' : vs 6 = .agg #[.slice ra R1.length rc, .slice qa R2.length qc] := hd 6 (List.contains_iff_mem.1 (by kernel_rfl))
              refine wpOp_step (o := _) rfl (fun K' hK => ?_)
              have HK := Lib.hid hK
              clear hK
              simp only [lay, Act.put, List.setIfInBounds_toArray, List.set_cons_zero, List.set_cons_succ, List.getD_cons_zero, List.getD_cons_succ, id_eq]
              rw [e2', e5', e6']
              go_simp
              refine HK.out _ _ ⟨_, ?_, Below.refl _ _, rfl⟩
              simp only [lay, Act.put, List.setIfInBounds_toArray, List.set_cons_zero, List.set_cons_succ, List.getD_cons_zero, List.getD_cons_succ, id_eq]
              rw [e2', e5', e6']
            · refine wpOp_step (o := _) rfl (fun K' hK => ?_)
              have HK := Lib.hid hK
              clear hK
              simp only [lay, Act.put, List.setIfInBounds_toArray, List.set_cons_zero, List.set_cons_succ, List.getD_cons_zero, List.getD_cons_succ, id_eq]
              go_simp
              refine HK.out _ _ ⟨_, ?_, (Below.refl _ _).alloc (Nat.le_refl _) _, _, rfl, BoxC.new _ _ _, hBq.size⟩
              simp only [lay, Act.put, List.setIfInBounds_toArray, List.set_cons_zero, List.set_cons_succ, List.getD_cons_zero, List.getD_cons_succ, id_eq]
          case tail =>
            intro vs wq hBq hf
            have e7 : vs 7 = .agg #[.int .i64 X, .int .i64 Y, .slice ra R1.length rc, .slice qa R2.length qc] := hf 7 (by decide)
            obtain ⟨p8, e8, b8, n8⟩ : isC (w4.heap.size) 32 #[.int .i64 0, .int .i64 0, .slice none 0 0, .slice none 0 0] (vs 8) wq := hf 8 (by decide)
            simp only [lay, Act.put, List.setIfInBounds_toArray, List.set_cons_zero, List.set_cons_succ, List.getD_cons_zero, List.getD_cons_succ, id_eq]
            rw [e7, e8]
            clear e7 e8
            refine any_all (rs := [9]) (by kernel_rfl) (by simp) ?_
            intro i hi
            simp only [List.mem_cons, List.not_mem_nil, or_false] at hi
            subst hi
            refine wpOp_step (o := _) rfl (fun K' hK => ?_)
            have HK := Lib.hid hK
            clear hK
            have kc0 := b8.c 0 rfl
            have kf0 := b8.f 0
            have kc1 := b8.c 1 rfl
            have kf1 := b8.f 1
            have kc2 := b8.c 2 rfl
            have kf2 := b8.f 2
            have kc3 := b8.c 3 rfl
            have kf3 := b8.f 3
            go_simp
            refine HK.out _ _ ?_
            clear HK K' kc0 kf0 kc1 kf1 kc2 kf2 kc3 kf3
            try simp only [Act.put, List.setIfInBounds_toArray, List.set_cons_zero, List.set_cons_succ]
            have b8' := ((((b8.put 0 (.int .i64 X)).put 1 (.int .i64 Y)).put 2 (.slice ra R1.length rc)).put 3 (.slice qa R2.length qc))
            have hBq' := ((((hBq.setCell (p := ⟨p8, 0, none⟩) n8 (.int .i64 X)).setCell (p := ⟨p8, 1, none⟩) n8 (.int .i64 Y)).setCell (p := ⟨p8, 2, none⟩) n8 (.slice ra R1.length rc)).setCell (p := ⟨p8, 3, none⟩) n8 (.slice qa R2.length qc))
            refine any_done (by kernel_rfl) ?_ _
            go_wp2_with fail
            go_meet
            exact ⟨p8, rfl, b8', n8, hBq'⟩
        case rest =>
          obtain ⟨p, rfl, bp, hpw, hb⟩ := hcut
          replace HO2 := Lib.hid (HO2.out.later hb)
          replace HO3 := Lib.hid (HO3.out.later hb)
          replace HR := Lib.hid (HR.out.later hb)
          replace HB := Lib.hid (HB.out.trans (hb.mono hg3))
          have HQ := Lib.hid bp
          have hpn : w.heap.size ≠ p := Nat.ne_of_lt (Nat.lt_of_lt_of_le hR4 hpw)
          have jf := implGood X Y _ _ _ _ R1 R2 wc (by omega) (by omega) HO2.out HO3.out
          clear hb bp hR4 hn0 hn1
          have q0 := HQ.out.c 0 rfl
          have q1 := HQ.out.c 1 rfl
          have q2 := HQ.out.c 2 rfl
          have q3 := HQ.out.c 3 rfl
          by_cases h5 : NOk X Y R1 R2
          · rw [decide_eq_true h5] at jf
            have HF := Lib.hid (HGOOD.out h5)
            have JF := Lib.hid jf
            clear jf h5
            go_wp2_with fail
            refine JF.out.mono ?_
            rintro e w5 ⟨rfl, hb⟩
            replace HO2 := Lib.hid (HO2.out.later hb)
            replace HO3 := Lib.hid (HO3.out.later hb)
            replace HR := Lib.hid (HR.out.later hb)
            replace HQ := Lib.hid (HQ.out.later hb)
            replace HB := Lib.hid (HB.out.trans (hb.mono HB.out.size))
            clear hb JF q0 q1 q2 q3
            have q0 := HQ.out.c 0 rfl
            have q1 := HQ.out.c 1 rfl
            have q2 := HQ.out.c 2 rfl
            have q3 := HQ.out.c 3 rfl
            have r0 := HR.out.c 0 rfl
            have r1 := HR.out.c 1 rfl
            have r2 := HR.out.c 2 rfl
            have r3 := HR.out.c 3 rfl
            have f0 := HR.out.f 0
            have f1 := HR.out.f 1
            have f2 := HR.out.f 2
            have f3 := HR.out.f 3
            go_wp2_with fail
            refine bodyPost_ret (v := .tuple #[.agg #[.int .i64 X, .int .i64 Y, .slice ra R1.length rc, .slice qa R2.length qc], .bool true]) (by simp [results, Tryz.results12, go_sem, r0, r1, r2, r3]) rfl ?_
            refine ⟨_, _, by rw [HF.out.1, HF.out.2.1, HF.out.2.2.1], ?_, ?_, ?_⟩
            · rw [HF.out.2.2.2.1]
              exact row_put (row_put (row_put (row_put HO2.out.row HR.out (by decide) 0 _) (HR.out.put 0 _) (by decide) 1 _) ((HR.out.put 0 _).put 1 _) (by decide) 2 _) (((HR.out.put 0 _).put 1 _).put 2 _) (by decide) 3 _
            · rw [HF.out.2.2.2.2]
              exact row_put (row_put (row_put (row_put HO3.out.row HR.out (by decide) 0 _) (HR.out.put 0 _) (by decide) 1 _) ((HR.out.put 0 _).put 1 _) (by decide) 2 _) (((HR.out.put 0 _).put 1 _).put 2 _) (by decide) 3 _
            · exact
                (((HB.out.setCell (p := ⟨w.heap.size, 0, none⟩) (Nat.le_refl _) _).setCell (p := ⟨w.heap.size, 1, none⟩) (Nat.le_refl _) _).setCell (p := ⟨w.heap.size, 2, none⟩) (Nat.le_refl _) _).setCell (p := ⟨w.heap.size, 3, none⟩) (Nat.le_refl _) _
          · rw [decide_eq_false h5] at jf
            have HF := Lib.hid (HBAD.out h5)
            have JF := Lib.hid jf
            clear jf h5
            go_wp2_with fail
            refine JF.out.mono ?_
            rintro e w5 ⟨rfl, hb⟩
            replace HR := Lib.hid (HR.out.later hb)
            replace HB := Lib.hid (HB.out.trans (hb.mono HB.out.size))
            clear hb JF q0 q1 q2 q3
            have r0 := HR.out.c 0 rfl
            have r1 := HR.out.c 1 rfl
            have r2 := HR.out.c 2 rfl
            have r3 := HR.out.c 3 rfl
            have f0 := HR.out.f 0
            have f1 := HR.out.f 1
            have f2 := HR.out.f 2
            have f3 := HR.out.f 3
            go_wp2_with fail
            refine bodyPost_ret (v := .tuple #[.agg #[.int .i64 0, .int .i64 0, .slice none 0 0, .slice none 0 0], .bool false]) (by simp [results, Tryz.results12, go_sem, r0, r1, r2, r3]) rfl ?_
            refine ⟨_, _, by rw [HF.out.1, HF.out.2.1, HF.out.2.2.1], by rw [HF.out.2.2.2.1]; exact World.ownsRow_nil _ _ _ _, by rw [HF.out.2.2.2.2]; exact World.ownsRow_nil _ _ _ _, ?_⟩
            exact
              (((HB.out.setCell (p := ⟨w.heap.size, 0, none⟩) (Nat.le_refl _) _).setCell (p := ⟨w.heap.size, 1, none⟩) (Nat.le_refl _) _).setCell (p := ⟨w.heap.size, 2, none⟩) (Nat.le_refl _) _).setCell (p := ⟨w.heap.size, 3, none⟩) (Nat.le_refl _) _
  · have HF := Lib.hid (HNO.out (fun h => h4 h.1))
    have g4 : ((ps.length : Int) != 3) = true := by rw [bne_iff_ne]; omega
    clear h4 hpl
    have r0 := HR.out.c 0 rfl
    have r1 := HR.out.c 1 rfl
    have r2 := HR.out.c 2 rfl
    have r3 := HR.out.c 3 rfl
    have f0 := HR.out.f 0
    have f1 := HR.out.f 1
    have f2 := HR.out.f 2
    have f3 := HR.out.f 3
    go_wp2_with fail
    refine bodyPost_ret (v := .tuple #[.agg #[.int .i64 0, .int .i64 0, .slice none 0 0, .slice none 0 0], .bool false]) (by simp [results, Tryz.results12, go_sem, r0, r1, r2, r3]) rfl ?_
    refine ⟨_, _, by rw [HF.out.1, HF.out.2.1, HF.out.2.2.1], by rw [HF.out.2.2.2.1]; exact World.ownsRow_nil _ _ _ _, by rw [HF.out.2.2.2.2]; exact World.ownsRow_nil _ _ _ _, ?_⟩
    exact
      (((HB.out.setCell (p := ⟨w.heap.size, 0, none⟩) (Nat.le_refl _) _).setCell (p := ⟨w.heap.size, 1, none⟩) (Nat.le_refl _) _).setCell (p := ⟨w.heap.size, 2, none⟩) (Nat.le_refl _) _).setCell (p := ⟨w.heap.size, 3, none⟩) (Nat.le_refl _) _
end Go.Proofs.YtpdpejlcilnafaaGreatDoor.kit
