/-
  Chapter 4: what spec's and impl's EqualMachines return; slices.Equal at ints and at sessions.
-/
import Derived.Test.YtibpajlfcknegaaS4Plain
import Derived.Laws.StructEq
import Derived.BigQuiet
namespace Go.Proofs.Ytibpajlfcknegaa.kit
open Go.ChangeShapes Go.WideShapes Go.ChangeAt Go.RowKit
set_option linter.unusedVariables false

set_option maxRecDepth 100000 in
theorem neqSess (x y : Sess) (W : World) : Sem.run Try.prog (binOp .neq 39 (sessV x) (sessV y)) W = .ok (.bool (!decide (x = y))) W := by
  obtain ⟨c, s, d, v⟩ := x
  obtain ⟨c2, s2, d2, v2⟩ := y
  unfold sessV
  simp only
  have u3 := Try.underlying3
  have u4 := Try.underlying4
  have hS : Try.prog.underlying 39 = some (.struct (Try.prog.fieldsOf 39)) := by kernel_rfl
  have hp : Try.prog.stoodInHeld 39 = false := by kernel_rfl
  have hS2 : Try.prog.underlying 33 = some (.struct (Try.prog.fieldsOf 33)) := by kernel_rfl
  have hp2 : Try.prog.stoodInHeld 33 = false := by kernel_rfl
  rw [run_neq_struct, show (10000 : Nat) = 9999 + 1 from rfl, run_equalIn_agg W 9999 39 _ _ hS hp]
  have he := fun (w : World) (xs ys : Array Value) => run_equalIn_agg w 9997 33 xs ys hS2 hp2
  simp only [Program.fieldsOf, Try.underlying39, Try.underlying33] at he ⊢
  clear hS hS2 hp hp2
  have k3 := Try.isAgg3
  go_simp
  by_cases h1 : c = c2 <;> by_cases h2 : s = s2 <;> by_cases h3 : d = d2 <;> by_cases h4 : v = v2 <;> simp [h1, h2, h3, h4]
theorem eq_takeI {a b : List Int} {k : Nat} (hl : a.length = b.length) (hk : a.length ≤ k) (h : ∀ j, j < k → a.getD j 0 = b.getD j 0) : a = b := eq_take hl hk h
set_option maxRecDepth 100000 in
theorem slEqualI (a1 a2 : Option Addr) (c1 c2 : Nat) (l1 l2 : List Int) (w : World) (h1 : l1.length ≤ 4194304) (h2 : l2.length ≤ 4194304) (ha1 : At w a1 l1) (ha2 : At w a2 l2) :
    Calls Try.prog 37 #[.slice a1 l1.length c1, .slice a2 l2.length c2] w fun e w' => e = .returned (.bool (decide (l1 = l2))) ∧ Drawn w w' := by
  have HA1 := Lib.hid ha1
  have HA2 := Lib.hid ha2
  clear ha1 ha2
  by_cases hn : l1.length = l2.length
  · have g1 : (((l1.length : Nat) : Int) != (l2.length : Nat)) = false := by simp [hn]
    have HN := Lib.hid hn
    clear hn
    go_enter Try.func37, Try.ntmps37
    go_wp2_with fail
    clear g1
    go_loopw [13] (fun i wr => ∃ k : Nat, k ≤ l1.length ∧ i = .int .i64 k ∧ Hid (∀ j, j < k → l1.getD j 0 = l2.getD j 0) ∧ Hid (Drawn w wr)) (fun i _ => l1.length - (intOf i).toNat)
    case atStart => exact ⟨0, Nat.zero_le _, rfl, Lib.hid (fun j h => by omega), Lib.hid (Drawn.refl _)⟩
    case round =>
      obtain ⟨k, hk, rfl, HE, HQ⟩ := hrel
      by_cases hlt : k < l1.length
      · obtain ⟨x, rfl, _, hc1⟩ := HA1.out k hlt
        have hc1 := HQ.out.cell hc1
        obtain ⟨y, rfl, _, hc2⟩ := HA2.out k (by have := HN.out; omega)
        have hc2 := HQ.out.cell hc2
        have hlt2 : k < l2.length := by have := HN.out; omega
        by_cases hz : l1.getD k 0 = l2.getD k 0
        · rw [← hz] at hc2
          have HE2 := Lib.hid (show ∀ j, j < k + 1 → l1.getD j 0 = l2.getD j 0 from fun j hj => by
            by_cases e : j = k
            · rw [e]; exact hz
            · exact HE.out j (by omega))
          clear hz
          generalize l1.getD k 0 = z1 at *
          go_wp2_with fail
          go_quiet (fail)
          go_wp2_with fail
          go_roundw
          case rel => exact ⟨k + 1, by omega, by go_num, HE2, Lib.hid (HQ.out.more _)⟩
          case measure => simp [intOf]; omega
        · have HF := Lib.hid (show l1 ≠ l2 from fun e => hz (by rw [e]))
          have g2 : (l1.getD k 0 != l2.getD k 0) = true := by rw [bne_iff_ne]; exact hz
          clear hz
          generalize l1.getD k 0 = z1 at *
          generalize l2.getD k 0 = z2 at *
          go_wp2_with fail
          go_quiet (fail)
          go_wp2_with fail
          go_ret
          exact ⟨by rw [decide_eq_false (HF.out)]; rfl, HQ.out.more _⟩
      · have HF := Lib.hid (show l1 = l2 from eq_take HN.out (by omega) HE.out)
        go_wp2_with fail
        go_ret
        exact ⟨by rw [decide_eq_true (HF.out)]; rfl, HQ.out⟩
  · have g1 : (((l1.length : Nat) : Int) != (l2.length : Nat)) = true := by simp; omega
    have HF := Lib.hid (show l1 ≠ l2 from fun e => hn (by rw [e]))
    clear hn
    go_enter Try.func37, Try.ntmps37
    go_wp2_with fail
    go_ret
    exact ⟨by rw [decide_eq_false (HF.out)]; rfl, Drawn.refl _⟩
set_option maxRecDepth 100000 in
set_option maxHeartbeats 2000000 in
theorem slEqualS (a1 a2 : Option Addr) (c1 c2 : Nat) (l1 l2 : List Sess) (w : World) (h1 : l1.length ≤ 4194304) (h2 : l2.length ≤ 4194304) (ha1 : AtS w a1 l1) (ha2 : AtS w a2 l2) :
    Calls Try.prog 38 #[.slice a1 l1.length c1, .slice a2 l2.length c2] w fun e w' => e = .returned (.bool (decide (l1 = l2))) ∧ Drawn w w' := by
  have HA1 := Lib.hid ha1
  have HA2 := Lib.hid ha2
  clear ha1 ha2
  by_cases hn : l1.length = l2.length
  · have g1 : (((l1.length : Nat) : Int) != (l2.length : Nat)) = false := by simp [hn]
    have HN := Lib.hid hn
    clear hn
    go_enter Try.func38, Try.ntmps38
    go_wp2_with fail
    clear g1
    go_loopw [13] (fun i wr => ∃ k : Nat, k ≤ l1.length ∧ i = .int .i64 k ∧ Hid (∀ j, j < k → sg l1 j = sg l2 j) ∧ Hid (Drawn w wr)) (fun i _ => l1.length - (intOf i).toNat)
    case atStart => exact ⟨0, Nat.zero_le _, rfl, Lib.hid (fun j h => by omega), Lib.hid (Drawn.refl _)⟩
    case round =>
      obtain ⟨k, hk, rfl, HE, HQ⟩ := hrel
      by_cases hlt : k < l1.length
      · skip
        obtain ⟨g, o, rfl, hg, hq1⟩ := HA1.out k hlt
        obtain ⟨q, HQ3⟩ : ∃ q, Hid (wr = w.drewN q) := by obtain ⟨q, e⟩ := HQ.out; exact ⟨q, Lib.hid e⟩
        obtain ⟨c0, c1', c2', c3⟩ : SessAt wr g (o + k * 4) (sg l1 k) := by rw [HQ3.out]; exact hq1.drewN q
        obtain ⟨g', o', rfl, hg', hq2⟩ := HA2.out k (by have := HN.out; omega)
        obtain ⟨d0, d1, d2, d3⟩ : SessAt wr g' (o' + k * 4) (sg l2 k) := by rw [HQ3.out]; exact hq2.drewN q
        have hlt2 : k < l2.length := by have := HN.out; omega
        have heq := fun W => neqSess (sg l1 k) (sg l2 k) W
        clear hq1 hq2 HQ3
        unfold sessV at heq
        obtain ⟨x0, x1, x2, x3, hx⟩ : ∃ c s d v, sg l1 k = (c, s, d, v) := ⟨_, _, _, _, rfl⟩
        obtain ⟨y0, y1, y2, y3, hy⟩ : ∃ c s d v, sg l2 k = (c, s, d, v) := ⟨_, _, _, _, rfl⟩
        by_cases hz : sg l1 k = sg l2 k
        · have HE2 := Lib.hid (show ∀ j, j < k + 1 → sg l1 j = sg l2 j from fun j hj => by
            by_cases e : j = k
            · rw [e]; exact hz
            · exact HE.out j (by omega))
          rw [decide_eq_true hz] at heq
          rw [hx] at c0 c1' c2' c3 heq
          rw [hy] at d0 d1 d2 d3 heq
          simp only at c0 c1' c2' c3 d0 d1 d2 d3 heq
          clear hz hx hy
          go_wp2_with fail
          go_quiet (fail)
          go_wp2_with fail
          go_roundw
          case rel => exact ⟨k + 1, by omega, by go_num, HE2, Lib.hid (HQ.out.more _)⟩
          case measure => simp [intOf]; omega
        · have HF := Lib.hid (show l1 ≠ l2 from fun e => hz (by rw [e]))
          rw [decide_eq_false hz] at heq
          rw [hx] at c0 c1' c2' c3 heq
          rw [hy] at d0 d1 d2 d3 heq
          simp only at c0 c1' c2' c3 d0 d1 d2 d3 heq
          clear hz hx hy
          go_wp2_with fail
          go_quiet (fail)
          go_wp2_with fail
          go_ret
          exact ⟨by rw [decide_eq_false (HF.out)]; rfl, HQ.out.more _⟩
      · have HF := Lib.hid (show l1 = l2 from eq_takeS HN.out (by omega) HE.out)
        go_wp2_with fail
        go_ret
        exact ⟨by rw [decide_eq_true (HF.out)]; rfl, HQ.out⟩
  · have g1 : (((l1.length : Nat) : Int) != (l2.length : Nat)) = true := by simp; omega
    have HF := Lib.hid (show l1 ≠ l2 from fun e => hn (by rw [e]))
    clear hn
    go_enter Try.func38, Try.ntmps38
    go_wp2_with fail
    go_ret
    exact ⟨by rw [decide_eq_false (HF.out)]; rfl, Drawn.refl _⟩
set_option maxRecDepth 100000 in
set_option maxHeartbeats 4000000 in
theorem implEqualMachinesA (a1 : Option Addr) (c1 : Nat) (L1 : List Int) (a2 : Option Addr) (c2 : Nat) (L2 : List Sess) (b1 : Option Addr) (e1 : Nat) (M1 : List Int) (b2 : Option Addr) (e2 : Nat) (M2 : List Sess) (w : World)
    (h1 : L1.length ≤ 4194304) (h2 : L2.length ≤ 4194304) (k1 : M1.length ≤ 4194304) (k2 : M2.length ≤ 4194304) (ha1 : At w a1 L1) (ha2 : AtS w a2 L2) (hb1 : At w b1 M1) (hb2 : AtS w b2 M2) :
    Calls Try.prog 9 #[.agg #[.slice a1 L1.length c1, .slice a2 L2.length c2], .agg #[.slice b1 M1.length e1, .slice b2 M2.length e2]] w fun e w' => e = .returned (.bool (decide (L1 = M1 ∧ L2 = M2))) ∧ Below w.heap.size w w' := by
  obtain ⟨WB, hWB⟩ : ∃ W, W = (w.alloc (.cells #[.slice a1 L1.length c1, .slice a2 L2.length c2] 27)).alloc (.cells #[.slice b1 M1.length e1, .slice b2 M2.length e2] 27) := ⟨_, rfl⟩
  have x0 : WB.cell? ⟨w.heap.size, 0, none⟩ = some (.slice a1 L1.length c1) := by rw [hWB]; go_simp
  have x1 : WB.cell? ⟨w.heap.size, 1, none⟩ = some (.slice a2 L2.length c2) := by rw [hWB]; go_simp
  have y0 : WB.cell? ⟨w.heap.size + 1, 0, none⟩ = some (.slice b1 M1.length e1) := by rw [hWB]; go_simp
  have y1 : WB.cell? ⟨w.heap.size + 1, 1, none⟩ = some (.slice b2 M2.length e2) := by rw [hWB]; go_simp
  have HB := Lib.hid (show Below w.heap.size w WB by rw [hWB]; exact ((Below.refl _ _).alloc (Nat.le_refl _) _).alloc (by simp) _)
  have HW := Lib.hid hWB
  clear hWB
  have j1 := slEqualI a1 b1 c1 e1 L1 M1 WB h1 k1 (ha1.later HB.out) (hb1.later HB.out)
  have j2 := fun q => slEqualS a2 b2 c2 e2 L2 M2 (WB.drewN q) h2 k2 (ha2.later (below_drewN HB.out q)) (hb2.later (below_drewN HB.out q))
  clear ha1 hb1 ha2 hb2
  by_cases hq : L1 = M1
  · rw [decide_eq_true hq] at j1
    by_cases hn : L2 = M2
    · have HF := Lib.hid (show decide (L1 = M1 ∧ L2 = M2) = true from decide_eq_true ⟨hq, hn⟩)
      rw [decide_eq_true hn] at j2
      have J1 := Lib.hid j1
      have J2 := fun q => Lib.hid (j2 q)
      clear j1 j2 hq hn
      go_enter Try.func9, Try.ntmps9
      go_wp2_with fail
      rw [← HW.out]
      refine J1.out.mono ?_
      rintro e w1 ⟨rfl, q, rfl⟩
      go_wp2_with fail
      refine (J2 q).out.mono ?_
      rintro e w2 ⟨rfl, q2, rfl⟩
      go_wp2_with fail
      go_ret
      exact ⟨by rw [HF.out]; rfl, below_drewN HB.out _⟩
    · have HF := Lib.hid (show decide (L1 = M1 ∧ L2 = M2) = false from decide_eq_false (fun h => hn h.2))
      rw [decide_eq_false hn] at j2
      have J1 := Lib.hid j1
      have J2 := fun q => Lib.hid (j2 q)
      clear j1 j2 hq hn
      go_enter Try.func9, Try.ntmps9
      go_wp2_with fail
      rw [← HW.out]
      refine J1.out.mono ?_
      rintro e w1 ⟨rfl, q, rfl⟩
      go_wp2_with fail
      refine (J2 q).out.mono ?_
      rintro e w2 ⟨rfl, q2, rfl⟩
      go_wp2_with fail
      go_ret
      exact ⟨by rw [HF.out]; rfl, below_drewN HB.out _⟩
  · have HF := Lib.hid (show decide (L1 = M1 ∧ L2 = M2) = false from decide_eq_false (fun h => hq h.1))
    rw [decide_eq_false hq] at j1
    have J1 := Lib.hid j1
    clear j1 j2 hq
    go_enter Try.func9, Try.ntmps9
    go_wp2_with fail
    rw [← HW.out]
    refine J1.out.mono ?_
    rintro e w1 ⟨rfl, q, rfl⟩
    go_wp2_with fail
    go_ret
    exact ⟨by rw [HF.out]; rfl, below_drewN HB.out _⟩
theorem implEqualMachines (b1 b2 : Nat) (v1 v2 : Value) (L1 : List Int) (L2 : List Sess) (b3 b4 : Nat) (v3 v4 : Value) (M1 : List Int) (M2 : List Sess) (w : World) (h1 : L1.length ≤ 4194304) (h2 : L2.length ≤ 4194304) (o1 : OwnI b1 w v1 L1) (o2 : OwnS b2 w v2 L2)
    (k1 : M1.length ≤ 4194304) (k2 : M2.length ≤ 4194304) (o3 : OwnI b3 w v3 M1) (o4 : OwnS b4 w v4 M2) :
    Calls Try.prog 9 #[.agg #[v1, v2], .agg #[v3, v4]] w fun e w' => e = .returned (.bool (decide (L1 = M1 ∧ L2 = M2))) ∧ Below w.heap.size w w' := by
  obtain ⟨a1, c1, rfl, _, _, t1, _⟩ := o1.form
  obtain ⟨a2, c2, rfl, _, _, t2, _⟩ := o2.form
  obtain ⟨a3, c3, rfl, _, _, t3, _⟩ := o3.form
  obtain ⟨a4, c4, rfl, _, _, t4, _⟩ := o4.form
  exact implEqualMachinesA a1 c1 L1 a2 c2 L2 a3 c3 M1 a4 c4 M2 w h1 h2 k1 k2 t1 t2 t3 t4
end Go.Proofs.Ytibpajlfcknegaa.kit
