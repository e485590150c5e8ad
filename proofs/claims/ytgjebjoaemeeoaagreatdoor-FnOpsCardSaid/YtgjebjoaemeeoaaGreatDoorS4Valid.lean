/-
  Chapter 4: what spec's and impl's IsValidMachine return.
-/
import Derived.Test.YtgjebjoaemeeoaaGreatDoorS4Plain
import Derived.BigQuiet
import Derived.Shelf.SlSortCmp.QuietGrown
import Derived.Test.YtgjebjoaemeeoaaGreatDoorKept
namespace Go.Proofs.YtgjebjoaemeeoaaGreatDoor.kit
open Go.ChangeShapes Go.WideShapes Go.ChangeAt Go.RowKit Go.Sort
set_option linter.unusedVariables false

theorem below_grow (w : World) (n : Nat) (os : Array Obj) : Below w.heap.size w (grow (w.drewN n) os) := ⟨rfl, rfl, rfl, by rw [size_grow]; exact Nat.le_add_right _ _, fun k hk => heap_grow_old (w.drewN n) os hk⟩
theorem not_MOk_val {L1 : List Int} {L2 : List Sess} {k : Nat} (h : k < L1.length) (hv : okV (L1.getD k 0) = false) : decide (MOk L1 L2) = false :=
  decide_eq_false (fun m => by have := m.2.1 k h; rw [hv] at this; cases this)
theorem not_MOk_sess {L1 : List Int} {L2 : List Sess} {k : Nat} (h : k < L2.length) (hv : sessOk (sg L2 k) = false) : decide (MOk L1 L2) = false :=
  decide_eq_false (fun m => by have := (m.2.2 k h).1; rw [hv] at this; cases this)
theorem not_MOk_asc {L1 : List Int} {L2 : List Sess} {k : Nat} (h : k < L2.length) (h0 : 0 < k) (hv : (sg L2 k).1 ≤ (sg L2 (k - 1)).1) : decide (MOk L1 L2) = false :=
  decide_eq_false (fun m => by have := (m.2.2 k h).2 h0; omega)
set_option maxRecDepth 100000 in
set_option maxHeartbeats 4000000 in
theorem specIsValidMachineA (a1 : Option Addr) (c1 : Nat) (L1 : List Int) (a2 : Option Addr) (c2 : Nat) (L2 : List Sess) (w : World) (h1 : L1.length ≤ 4194304) (h2 : L2.length ≤ 4194304) (ha1 : At w a1 L1) (ha2 : AtS w a2 L2) :
    Calls Tryz.prog 20 #[.agg #[.slice a1 L1.length c1, .slice a2 L2.length c2]] w fun e w' => e = .returned (.bool (decide (MOk L1 L2))) ∧ Below w.heap.size w w' := by
  have HA1 := Lib.hid ha1
  have HA2 := Lib.hid ha2
  clear ha1 ha2
  obtain ⟨WB, hWB⟩ : ∃ W, W = w.alloc (.cells #[.slice a1 L1.length c1, .slice a2 L2.length c2] 44) := ⟨_, rfl⟩
  have x0 : WB.cell? ⟨w.heap.size, 0, none⟩ = some (.slice a1 L1.length c1) := by rw [hWB, World.cell?_alloc_at _ _ _ _ rfl]; rfl
  have x1 : WB.cell? ⟨w.heap.size, 1, none⟩ = some (.slice a2 L2.length c2) := by rw [hWB, World.cell?_alloc_at _ _ _ _ rfl]; rfl
  have HB := Lib.hid (show Below w.heap.size w WB by rw [hWB]; exact (Below.refl _ _).alloc (Nat.le_refl _) _)
  have hlt : w.heap.size < WB.heap.size := by rw [hWB]; simp
  have HW := Lib.hid hWB
  clear hWB
  go_enter Tryz.func20, Tryz.ntmps20
  go_wp2_with fail
  rw [← HW.out]
  go_loop [3] (fun i => ∃ k : Nat, k ≤ L1.length ∧ i = .int .i64 k ∧ Hid (∀ j, j < k → okV (L1.getD j 0) = true)) (fun i => L1.length - (intOf i).toNat)
  case atStart => exact ⟨0, Nat.zero_le _, rfl, Lib.hid (fun j h => by omega)⟩
  case round =>
    obtain ⟨k, hk, rfl, HE⟩ := hrel
    by_cases hlt1 : k < L1.length
    · obtain ⟨x, rfl, _, hc⟩ := (HA1.out.later HB.out) k hlt1
      have j := fun W => in_c (L1.getD k 0) 0 9 W
      cases hv : okV (L1.getD k 0) with
      | true =>
        have HE2 := Lib.hid (show ∀ j, j < k + 1 → okV (L1.getD j 0) = true from fun j hj => by
          by_cases e : j = k
          · rw [e]; exact hv
          · exact HE.out j (by omega))
        unfold okV at hv
        rw [hv] at j
        clear hv
        generalize L1.getD k 0 = z at hc j
        have J := fun W => Lib.hid (j W)
        clear j
        go_wp2_with (go_at_call 53; refine (J _).out.mono ?_; rintro e w1 ⟨rfl, rfl⟩)
        go_round
        case rel => exact ⟨k + 1, by omega, by go_num, HE2⟩
        case measure => simp [intOf]; omega
      | false =>
        have HF := Lib.hid (not_MOk_val (L2 := L2) hlt1 hv)
        unfold okV at hv
        rw [hv] at j
        clear hv
        generalize L1.getD k 0 = z at hc j
        have J := fun W => Lib.hid (j W)
        clear j
        go_wp2_with (go_at_call 53; refine (J _).out.mono ?_; rintro e w1 ⟨rfl, rfl⟩)
        go_ret
        exact ⟨by rw [HF.out]; rfl, HB.out⟩
    · obtain rfl : k = L1.length := by omega
      go_wp2_with fail
      have HV := Lib.hid HE.out
      clear HE hk
      go_loopw [4] (fun i wr => ∃ k : Nat, k ≤ L2.length ∧ i = .int .i64 k ∧ Hid (∀ j, j < k → sessAsc L2 j) ∧ Hid (Below WB.heap.size WB wr)) (fun i _ => L2.length - (intOf i).toNat)
      case atStart => exact ⟨0, Nat.zero_le _, rfl, Lib.hid (fun j h => by omega), Lib.hid (Below.refl _ _)⟩
      case round =>
        obtain ⟨k, hk, rfl, HE, HQ⟩ := hrel
        have y0 := (HQ.out.cell (p := ⟨w.heap.size, 0, none⟩) hlt).trans x0
        have y1 := (HQ.out.cell (p := ⟨w.heap.size, 1, none⟩) hlt).trans x1
        have HBr := Lib.hid (HB.out.trans (HQ.out.mono HB.out.size))
        clear x0 x1
        by_cases hlt2 : k < L2.length
        · obtain ⟨g, o, rfl, hg, hc⟩ := HA2.out k hlt2
          obtain ⟨c0, c1', c2', c3⟩ := hc.below HBr.out hg
          have hpr : 0 < k → wr.cell? ⟨g, o + (k - 1) * 4, none⟩ = some (.int .i64 (sg L2 (k - 1)).1) := fun h0 => by
            obtain ⟨g', o', he, hg', hc'⟩ := HA2.out (k - 1) (by omega)
            cases he
            exact (hc'.below HBr.out hg').c0
          obtain ⟨c, s, d, v, hsg⟩ : ∃ c s d v, sg L2 k = (c, s, d, v) := ⟨_, _, _, _, rfl⟩
          rw [hsg] at c0 c1' c2' c3
          simp only at c0 c1' c2' c3
          have HSG := Lib.hid hsg
          clear hsg
          have hsz := HQ.out.size
          have hgr : g < wr.heap.size := by have := HBr.out.size; omega
          clear hc
          go_wp2_with fail
          obtain ⟨wy, hwy⟩ : ∃ W, W = wr.alloc (.cells #[.int .i64 c, .int .i64 s, .bool d, .int .i64 v] 98) := ⟨_, rfl⟩
          rw [← hwy]
          obtain ⟨pb, hpb⟩ : ∃ p, p = wr.heap.size := ⟨_, rfl⟩
          rw [← hpb]
          have z0 : wy.cell? ⟨pb, 0, none⟩ = some (.int .i64 c) := by rw [hwy, hpb, World.cell?_alloc_at _ _ _ _ rfl]; rfl
          have z1 : wy.cell? ⟨pb, 1, none⟩ = some (.int .i64 s) := by rw [hwy, hpb, World.cell?_alloc_at _ _ _ _ rfl]; rfl
          have z3 : wy.cell? ⟨pb, 3, none⟩ = some (.int .i64 v) := by rw [hwy, hpb, World.cell?_alloc_at _ _ _ _ rfl]; rfl
          have hby : Below wr.heap.size wr wy := by rw [hwy]; exact (Below.refl _ _).alloc (Nat.le_refl _) _
          replace y0 := (hby.cell (p := ⟨w.heap.size, 0, none⟩) (Nat.lt_of_lt_of_le hlt hsz)).trans y0
          replace y1 := (hby.cell (p := ⟨w.heap.size, 1, none⟩) (Nat.lt_of_lt_of_le hlt hsz)).trans y1
          replace hpr := fun h => (hby.cell (p := ⟨g, o + (k - 1) * 4, none⟩) hgr).trans (hpr h)
          have HY := Lib.hid (HBr.out.trans (hby.mono HBr.out.size))
          have HQ2 := Lib.hid (HQ.out.trans (hby.mono hsz))
          clear c0 c1' c2' c3 hwy hpb hby HQ
          have j1 := fun W => in_c c 0 2 W
          have j2 := fun W => in_c s 1 99 W
          have j3 := fun W => in_c v 0 9 W
          cases hc : okC c with
          | false =>
            have HF := Lib.hid (not_MOk_sess (L1 := L1) hlt2 (by rw [HSG.out]; simp [sessOk, hc]))
            unfold okC at hc
            rw [hc] at j1
            clear hc hpr
            have J1 := fun W => Lib.hid ((j1 W).mono fun e w' h => (⟨h.1, h.2.symm⟩ : _ ∧ w' = W))
            clear j1 j2 j3
            go_quiet (first | (with_reducible exact Calls.quiet_of_same (J1 _).out) | (with_reducible exact Calls.quiet_of_same (J2 _).out) | (with_reducible exact Calls.quiet_of_same (J3 _).out))
            go_wp2_with fail
            go_ret
            exact ⟨by rw [HF.out]; rfl, below_drewN HY.out _⟩
          | true =>
            cases hs : okS s with
            | false =>
              have HF := Lib.hid (not_MOk_sess (L1 := L1) hlt2 (by rw [HSG.out]; simp [sessOk, hs]))
              unfold okC at hc
              unfold okS at hs
              rw [hc] at j1
              rw [hs] at j2
              clear hc hs hpr
              have J1 := fun W => Lib.hid ((j1 W).mono fun e w' h => (⟨h.1, h.2.symm⟩ : _ ∧ w' = W))
              have J2 := fun W => Lib.hid ((j2 W).mono fun e w' h => (⟨h.1, h.2.symm⟩ : _ ∧ w' = W))
              clear j1 j2 j3
              go_quiet (first | (with_reducible exact Calls.quiet_of_same (J1 _).out) | (with_reducible exact Calls.quiet_of_same (J2 _).out) | (with_reducible exact Calls.quiet_of_same (J3 _).out))
              go_wp2_with fail
              go_ret
              exact ⟨by rw [HF.out]; rfl, below_drewN HY.out _⟩
            | true =>
              cases hv : okV v with
              | false =>
                have HF := Lib.hid (not_MOk_sess (L1 := L1) hlt2 (by rw [HSG.out]; simp [sessOk, hv]))
                unfold okC at hc
                unfold okS at hs
                unfold okV at hv
                rw [hc] at j1
                rw [hs] at j2
                rw [hv] at j3
                clear hc hs hv hpr
                have J1 := fun W => Lib.hid ((j1 W).mono fun e w' h => (⟨h.1, h.2.symm⟩ : _ ∧ w' = W))
                have J2 := fun W => Lib.hid ((j2 W).mono fun e w' h => (⟨h.1, h.2.symm⟩ : _ ∧ w' = W))
                have J3 := fun W => Lib.hid ((j3 W).mono fun e w' h => (⟨h.1, h.2.symm⟩ : _ ∧ w' = W))
                clear j1 j2 j3
                go_quiet (first | (with_reducible exact Calls.quiet_of_same (J1 _).out) | (with_reducible exact Calls.quiet_of_same (J2 _).out) | (with_reducible exact Calls.quiet_of_same (J3 _).out))
                go_wp2_with fail
                go_ret
                exact ⟨by rw [HF.out]; rfl, below_drewN HY.out _⟩
              | true =>
                have HOK := Lib.hid (show sessOk (sg L2 k) = true by rw [HSG.out]; simp [sessOk, hc, hs, hv])
                unfold okC at hc
                unfold okS at hs
                unfold okV at hv
                rw [hc] at j1
                rw [hs] at j2
                rw [hv] at j3
                clear hc hs hv
                have J1 := fun W => Lib.hid ((j1 W).mono fun e w' h => (⟨h.1, h.2.symm⟩ : _ ∧ w' = W))
                have J2 := fun W => Lib.hid ((j2 W).mono fun e w' h => (⟨h.1, h.2.symm⟩ : _ ∧ w' = W))
                have J3 := fun W => Lib.hid ((j3 W).mono fun e w' h => (⟨h.1, h.2.symm⟩ : _ ∧ w' = W))
                by_cases h0 : 0 < k
                · have pr := hpr h0
                  clear hpr
                  have i1 : decide ((0 : Int) < (k : Int)) = true := by simp; omega
                  have i2 : IntKind.i64.wrap ((k : Int) - 1) = (k : Int) - 1 := IntWalk.i64_in _ (by omega)
                  have i3 : (0 : Int) ≤ (k : Int) - 1 := by omega
                  have i4 : ((k : Int) - 1).toNat = k - 1 := by omega
                  have i5 : (k : Int) - 1 < (L2.length : Int) := by omega
                  by_cases hq : c ≤ (sg L2 (k - 1)).1
                  · have HF := Lib.hid (not_MOk_asc (L1 := L1) hlt2 h0 (by rw [HSG.out]; exact hq))
                    clear j1 j2 j3
                    go_quiet (first | (with_reducible exact Calls.quiet_of_same (J1 _).out) | (with_reducible exact Calls.quiet_of_same (J2 _).out) | (with_reducible exact Calls.quiet_of_same (J3 _).out))
                    go_wp2_with fail
                    go_ret
                    exact ⟨by rw [HF.out]; rfl, below_drewN HY.out _⟩
                  · have HE2 := Lib.hid (show ∀ j, j < k + 1 → sessAsc L2 j from fun j hj => by
                      by_cases e : j = k
                      · rw [e]; exact ⟨HOK.out, fun _ => by rw [HSG.out]; simp only; omega⟩
                      · exact HE.out j (by omega))
                    have hq' : decide (c ≤ (sg L2 (k - 1)).1) = false := decide_eq_false hq
                    clear hq
                    clear j1 j2 j3
                    go_quiet (first | (with_reducible exact Calls.quiet_of_same (J1 _).out) | (with_reducible exact Calls.quiet_of_same (J2 _).out) | (with_reducible exact Calls.quiet_of_same (J3 _).out))
                    go_wp2_with fail
                    go_roundw
                    case rel => exact ⟨k + 1, by omega, by go_num, HE2, Lib.hid (below_drewN HQ2.out _)⟩
                    case measure => simp [intOf]; omega
                · have i1 : decide ((0 : Int) < (k : Int)) = false := by simp; omega
                  have HE2 := Lib.hid (show ∀ j, j < k + 1 → sessAsc L2 j from fun j hj => by
                      by_cases e : j = k
                      · rw [e]; exact ⟨HOK.out, fun h => absurd h h0⟩
                      · exact HE.out j (by omega))
                  clear hpr
                  clear j1 j2 j3
                  go_quiet (first | (with_reducible exact Calls.quiet_of_same (J1 _).out) | (with_reducible exact Calls.quiet_of_same (J2 _).out) | (with_reducible exact Calls.quiet_of_same (J3 _).out))
                  go_wp2_with fail
                  go_roundw
                  case rel => exact ⟨k + 1, by omega, by go_num, HE2, Lib.hid (below_drewN HQ2.out _)⟩
                  case measure => simp [intOf]; omega
        · obtain rfl : k = L2.length := by omega
          by_cases h3 : L1.length = 3
          · have HF := Lib.hid (show decide (MOk L1 L2) = true from decide_eq_true ⟨h3, HV.out, HE.out⟩)
            have g3 : ((L1.length : Int) == 3) = true := by rw [beq_iff_eq]; omega
            clear h3
            go_wp2_with fail
            go_ret
            exact ⟨by rw [HF.out]; rfl, HBr.out⟩
          · have HF := Lib.hid (show decide (MOk L1 L2) = false from decide_eq_false (fun m => h3 m.1))
            have g3 : ((L1.length : Int) == 3) = false := by rw [beq_eq_false_iff_ne]; omega
            clear h3
            go_wp2_with fail
            go_ret
            exact ⟨by rw [HF.out]; rfl, HBr.out⟩
set_option maxRecDepth 100000 in
theorem isSession_c (x : Sess) (w : World) : Calls Tryz.prog 85 #[sessV x] w fun e w' => e = .returned (.bool (sessOk x)) ∧ ∃ q os', w' = grow (w.drewN q) os' := by
  obtain ⟨c, s, d, v⟩ := x
  unfold sessV sessOk
  simp only
  have j1 := fun W => isClient_c c W
  have j2 := fun W => isSeq_c s W
  have j3 := fun W => isValue_c v W
  generalize okC c = bc at *
  generalize okS s = bs at *
  generalize okV v = bv at *
  have J1 := fun W => Lib.hid (j1 W)
  have J2 := fun W => Lib.hid (j2 W)
  have J3 := fun W => Lib.hid (j3 W)
  clear j1 j2 j3
  cases bc
  · skip
    go_enter Tryz.func85, Tryz.ntmps85
    go_wp2_with (first | (go_at_call 66; refine (J1 _).out.mono ?_; rintro e w1 ⟨rfl, rfl⟩) | (go_at_call 67; refine (J2 _).out.mono ?_; rintro e w1 ⟨rfl, rfl⟩) | (go_at_call 84; refine (J3 _).out.mono ?_; rintro e w1 ⟨rfl, rfl⟩))
    go_ret
    exact ⟨rfl, 0, _, by rw [alloc_eq_grow]; rfl⟩
  cases bs
  · skip
    go_enter Tryz.func85, Tryz.ntmps85
    go_wp2_with (first | (go_at_call 66; refine (J1 _).out.mono ?_; rintro e w1 ⟨rfl, rfl⟩) | (go_at_call 67; refine (J2 _).out.mono ?_; rintro e w1 ⟨rfl, rfl⟩) | (go_at_call 84; refine (J3 _).out.mono ?_; rintro e w1 ⟨rfl, rfl⟩))
    go_ret
    exact ⟨rfl, 0, _, by rw [alloc_eq_grow]; rfl⟩
  cases bv
  · skip
    go_enter Tryz.func85, Tryz.ntmps85
    go_wp2_with (first | (go_at_call 66; refine (J1 _).out.mono ?_; rintro e w1 ⟨rfl, rfl⟩) | (go_at_call 67; refine (J2 _).out.mono ?_; rintro e w1 ⟨rfl, rfl⟩) | (go_at_call 84; refine (J3 _).out.mono ?_; rintro e w1 ⟨rfl, rfl⟩))
    go_ret
    exact ⟨rfl, 0, _, by rw [alloc_eq_grow]; rfl⟩
  · skip
    go_enter Tryz.func85, Tryz.ntmps85
    go_wp2_with (first | (go_at_call 66; refine (J1 _).out.mono ?_; rintro e w1 ⟨rfl, rfl⟩) | (go_at_call 67; refine (J2 _).out.mono ?_; rintro e w1 ⟨rfl, rfl⟩) | (go_at_call 84; refine (J3 _).out.mono ?_; rintro e w1 ⟨rfl, rfl⟩))
    go_ret
    exact ⟨rfl, 0, _, by rw [alloc_eq_grow]; rfl⟩
set_option maxRecDepth 100000 in
set_option maxHeartbeats 4000000 in
theorem implIsValidMachineA (a1 : Option Addr) (c1 : Nat) (L1 : List Int) (a2 : Option Addr) (c2 : Nat) (L2 : List Sess) (w : World) (h1 : L1.length ≤ 4194304) (h2 : L2.length ≤ 4194304) (ha1 : At w a1 L1) (ha2 : AtS w a2 L2) :
    Calls Tryz.prog 47 #[.agg #[.slice a1 L1.length c1, .slice a2 L2.length c2]] w fun e w' => e = .returned (.bool (decide (MOk L1 L2))) ∧ Below w.heap.size w w' := by
  have HA1 := Lib.hid ha1
  have HA2 := Lib.hid ha2
  clear ha1 ha2
  obtain ⟨WB, hWB⟩ : ∃ W, W = w.alloc (.cells #[.slice a1 L1.length c1, .slice a2 L2.length c2] 44) := ⟨_, rfl⟩
  have x0 : WB.cell? ⟨w.heap.size, 0, none⟩ = some (.slice a1 L1.length c1) := by rw [hWB, World.cell?_alloc_at _ _ _ _ rfl]; rfl
  have x1 : WB.cell? ⟨w.heap.size, 1, none⟩ = some (.slice a2 L2.length c2) := by rw [hWB, World.cell?_alloc_at _ _ _ _ rfl]; rfl
  have HB := Lib.hid (show Below w.heap.size w WB by rw [hWB]; exact (Below.refl _ _).alloc (Nat.le_refl _) _)
  have hlt : w.heap.size < WB.heap.size := by rw [hWB]; simp
  have HW := Lib.hid hWB
  clear hWB
  by_cases h3 : L1.length = 3
  · have g3 : ((L1.length : Int) != 3) = false := by rw [bne_eq_false_iff_eq]; omega
    have H3 := Lib.hid h3
    clear h3
    go_enter Tryz.func47, Tryz.ntmps47
    go_wp2_with fail
    rw [← HW.out]
    clear g3
    go_loop [14] (fun i => ∃ k : Nat, k ≤ L1.length ∧ i = .int .i64 k ∧ Hid (∀ j, j < k → okV (L1.getD j 0) = true)) (fun i => L1.length - (intOf i).toNat)
    case atStart => exact ⟨0, Nat.zero_le _, rfl, Lib.hid (fun j h => by omega)⟩
    case round =>
      obtain ⟨k, hk, rfl, HE⟩ := hrel
      by_cases hlt1 : k < L1.length
      · obtain ⟨x, rfl, _, hc⟩ := (HA1.out.later HB.out) k hlt1
        have j := fun W => isValue_c (L1.getD k 0) W
        cases hv : okV (L1.getD k 0) with
        | true =>
          have HE2 := Lib.hid (show ∀ j, j < k + 1 → okV (L1.getD j 0) = true from fun j hj => by
            by_cases e : j = k
            · rw [e]; exact hv
            · exact HE.out j (by omega))
          rw [hv] at j
          clear hv
          generalize L1.getD k 0 = z at hc j
          have J := fun W => Lib.hid (j W)
          clear j
          go_wp2_with (go_at_call 84; refine (J _).out.mono ?_; rintro e w1 ⟨rfl, rfl⟩)
          go_round
          case rel => exact ⟨k + 1, by omega, by go_num, HE2⟩
          case measure => simp [intOf]; omega
        | false =>
          have HF := Lib.hid (not_MOk_val (L2 := L2) hlt1 hv)
          rw [hv] at j
          clear hv
          generalize L1.getD k 0 = z at hc j
          have J := fun W => Lib.hid (j W)
          clear j
          go_wp2_with (go_at_call 84; refine (J _).out.mono ?_; rintro e w1 ⟨rfl, rfl⟩)
          go_ret
          exact ⟨by rw [HF.out]; rfl, HB.out⟩
      · obtain rfl : k = L1.length := by omega
        go_wp2_with fail
        have HV := Lib.hid HE.out
        clear HE hk
        go_loopw [25] (fun i wr => ∃ k : Nat, k ≤ L2.length ∧ i = .int .i64 k ∧ Hid (∀ j, j < k → sessAsc L2 j) ∧ Hid (Below WB.heap.size WB wr)) (fun i _ => L2.length - (intOf i).toNat)
        case atStart => exact ⟨0, Nat.zero_le _, rfl, Lib.hid (fun j h => by omega), Lib.hid (Below.refl _ _)⟩
        case round =>
          obtain ⟨k, hk, rfl, HE, HQ⟩ := hrel
          have y0 := (HQ.out.cell (p := ⟨w.heap.size, 0, none⟩) hlt).trans x0
          have y1 := (HQ.out.cell (p := ⟨w.heap.size, 1, none⟩) hlt).trans x1
          have HBr := Lib.hid (HB.out.trans (HQ.out.mono HB.out.size))
          clear x0 x1
          by_cases hlt2 : k < L2.length
          · obtain ⟨g, o, rfl, hg, hc⟩ := HA2.out k hlt2
            obtain ⟨c0, c1', c2', c3⟩ := hc.below HBr.out hg
            have hpr : 0 < k → wr.cell? ⟨g, o + (k - 1) * 4, none⟩ = some (.int .i64 (sg L2 (k - 1)).1) := fun h0 => by
              obtain ⟨g', o', he, hg', hc'⟩ := HA2.out (k - 1) (by omega)
              cases he
              exact (hc'.below HBr.out hg').c0
            have jq := fun W => isSession_c (sg L2 k) W
            obtain ⟨c, s, d, v, hsg⟩ : ∃ c s d v, sg L2 k = (c, s, d, v) := ⟨_, _, _, _, rfl⟩
            rw [hsg] at c0 c1' c2' c3 jq
            unfold sessV at jq
            simp only at c0 c1' c2' c3 jq
            have HSG := Lib.hid hsg
            clear hsg
            have hsz := HQ.out.size
            have hgr : g < wr.heap.size := by have := HBr.out.size; omega
            clear hc
            go_wp2_with fail
            obtain ⟨wy, hwy⟩ : ∃ W, W = wr.alloc (.cells #[.int .i64 c, .int .i64 s, .bool d, .int .i64 v] 98) := ⟨_, rfl⟩
            rw [← hwy]
            obtain ⟨pb, hpb⟩ : ∃ p, p = wr.heap.size := ⟨_, rfl⟩
            rw [← hpb]
            have z0 : wy.cell? ⟨pb, 0, none⟩ = some (.int .i64 c) := by rw [hwy, hpb, World.cell?_alloc_at _ _ _ _ rfl]; rfl
            have z1 : wy.cell? ⟨pb, 1, none⟩ = some (.int .i64 s) := by rw [hwy, hpb, World.cell?_alloc_at _ _ _ _ rfl]; rfl
            have z2 : wy.cell? ⟨pb, 2, none⟩ = some (.bool d) := by rw [hwy, hpb, World.cell?_alloc_at _ _ _ _ rfl]; rfl
            have z3 : wy.cell? ⟨pb, 3, none⟩ = some (.int .i64 v) := by rw [hwy, hpb, World.cell?_alloc_at _ _ _ _ rfl]; rfl
            have hby : Below wr.heap.size wr wy := by rw [hwy]; exact (Below.refl _ _).alloc (Nat.le_refl _) _
            have hpy : pb < wy.heap.size := by rw [hwy, hpb]; simp
            replace y0 := (hby.cell (p := ⟨w.heap.size, 0, none⟩) (Nat.lt_of_lt_of_le hlt hsz)).trans y0
            replace y1 := (hby.cell (p := ⟨w.heap.size, 1, none⟩) (Nat.lt_of_lt_of_le hlt hsz)).trans y1
            replace hpr := fun h => (hby.cell (p := ⟨g, o + (k - 1) * 4, none⟩) hgr).trans (hpr h)
            have hly : w.heap.size < wy.heap.size := Nat.lt_of_lt_of_le (Nat.lt_of_lt_of_le hlt hsz) hby.size
            have hgy : g < wy.heap.size := Nat.lt_of_lt_of_le hgr hby.size
            have HY := Lib.hid (HBr.out.trans (hby.mono HBr.out.size))
            have HQ2 := Lib.hid (HQ.out.trans (hby.mono hsz))
            have q0 := cell_grown (a := ⟨pb, 0, none⟩) hpy z0
            have q1 := cell_grown (a := ⟨pb, 1, none⟩) hpy z1
            have q2 := cell_grown (a := ⟨pb, 2, none⟩) hpy z2
            have q3 := cell_grown (a := ⟨pb, 3, none⟩) hpy z3
            have q5 := cell_grown (a := ⟨w.heap.size, 1, none⟩) hly y1
            clear c0 c1' c2' c3 hwy hpb hby HQ hsz hgr
            cases hok : sessOk (c, s, d, v) with
            | false =>
              have HF := Lib.hid (not_MOk_sess (L1 := L1) hlt2 (by rw [HSG.out]; exact hok))
              rw [hok] at jq
              clear hok hpr
              have JQ := fun W => Lib.hid (jq W)
              clear jq
              refine wp_region_quiet_grown (by kernel_rfl) (by kernel_rfl) ?_
              repeat (go_big_quiet_step (first | (go_at_call 85; with_reducible exact Calls.grown_of (JQ _).out)))
              refine wpQuiet_nil ?_
              intro _ hw'
              obtain ⟨⟨nq, osq⟩, hw''⟩ := hw'
              subst hw''
              all_goals
                have HS := Lib.hid (below_grow wy nq osq)
                go_wp2_with fail
                go_ret
                exact ⟨by rw [HF.out]; rfl, HY.out.trans (HS.out.mono HY.out.size)⟩
            | true =>
              have HOK := Lib.hid (show sessOk (sg L2 k) = true by rw [HSG.out]; exact hok)
              rw [hok] at jq
              clear hok
              by_cases h0 : 0 < k
              · have pr := cell_grown (a := ⟨g, o + (k - 1) * 4, none⟩) hgy (hpr h0)
                clear hpr
                have i1 : decide ((0 : Int) < (k : Int)) = true := by simp; omega
                have i2 : IntKind.i64.wrap ((k : Int) - 1) = (k : Int) - 1 := IntWalk.i64_in _ (by omega)
                have i3 : (0 : Int) ≤ (k : Int) - 1 := by omega
                have i4 : ((k : Int) - 1).toNat = k - 1 := by omega
                have i5 : (k : Int) - 1 < (L2.length : Int) := by omega
                by_cases hq : c ≤ (sg L2 (k - 1)).1
                · have HF := Lib.hid (not_MOk_asc (L1 := L1) hlt2 h0 (by rw [HSG.out]; exact hq))
                  have JQ := fun W => Lib.hid (jq W)
                  clear jq
                  refine wp_region_quiet_grown (by kernel_rfl) (by kernel_rfl) ?_
                  repeat (go_big_quiet_step (first | (go_at_call 85; with_reducible exact Calls.grown_of (JQ _).out)))
                  refine wpQuiet_nil ?_
                  intro _ hw'
                  obtain ⟨⟨nq, osq⟩, hw''⟩ := hw'
                  subst hw''
                  all_goals
                    have HS := Lib.hid (below_grow wy nq osq)
                    go_wp2_with fail
                    go_ret
                    exact ⟨by rw [HF.out]; rfl, HY.out.trans (HS.out.mono HY.out.size)⟩
                · have HE2 := Lib.hid (show ∀ j, j < k + 1 → sessAsc L2 j from fun j hj => by
                    by_cases e : j = k
                    · rw [e]; exact ⟨HOK.out, fun _ => by rw [HSG.out]; simp only; omega⟩
                    · exact HE.out j (by omega))
                  have hq' : decide (c ≤ (sg L2 (k - 1)).1) = false := decide_eq_false hq
                  clear hq
                  have JQ := fun W => Lib.hid (jq W)
                  clear jq
                  refine wp_region_quiet_grown (by kernel_rfl) (by kernel_rfl) ?_
                  repeat (go_big_quiet_step (first | (go_at_call 85; with_reducible exact Calls.grown_of (JQ _).out)))
                  refine wpQuiet_nil ?_
                  intro _ hw'
                  obtain ⟨⟨nq, osq⟩, hw''⟩ := hw'
                  subst hw''
                  all_goals
                    have HS := Lib.hid (below_grow wy nq osq)
                    have HQ3 := Lib.hid (HQ2.out.trans (HS.out.mono HQ2.out.size))
                    clear z0 z1 z2 z3 y0 y1 HQ2 HS q0 q1 q2 q3 q5
                    go_wp2_with fail
                    go_roundw
                    case rel => exact ⟨k + 1, by omega, by go_num, HE2, HQ3⟩
                    case measure => simp [intOf]; omega
              · have i1 : decide ((0 : Int) < (k : Int)) = false := by simp; omega
                have HE2 := Lib.hid (show ∀ j, j < k + 1 → sessAsc L2 j from fun j hj => by
                    by_cases e : j = k
                    · rw [e]; exact ⟨HOK.out, fun h => absurd h h0⟩
                    · exact HE.out j (by omega))
                clear hpr
                have JQ := fun W => Lib.hid (jq W)
                clear jq
                refine wp_region_quiet_grown (by kernel_rfl) (by kernel_rfl) ?_
                repeat (go_big_quiet_step (first | (go_at_call 85; with_reducible exact Calls.grown_of (JQ _).out)))
                refine wpQuiet_nil ?_
                intro _ hw'
                obtain ⟨⟨nq, osq⟩, hw''⟩ := hw'
                subst hw''
                all_goals
                  have HS := Lib.hid (below_grow wy nq osq)
                  have HQ3 := Lib.hid (HQ2.out.trans (HS.out.mono HQ2.out.size))
                  clear z0 z1 z2 z3 y0 y1 HQ2 HS q0 q1 q2 q3 q5
                  go_wp2_with fail
                  go_roundw
                  case rel => exact ⟨k + 1, by omega, by go_num, HE2, HQ3⟩
                  case measure => simp [intOf]; omega
          · obtain rfl : k = L2.length := by omega
            have HF := Lib.hid (show decide (MOk L1 L2) = true from decide_eq_true ⟨H3.out, HV.out, HE.out⟩)
            go_wp2_with fail
            go_ret
            exact ⟨by rw [HF.out]; rfl, HBr.out⟩
  · have g3 : ((L1.length : Int) != 3) = true := by rw [bne_iff_ne]; omega
    have HF := Lib.hid (show decide (MOk L1 L2) = false from decide_eq_false (fun m => h3 m.1))
    clear h3
    go_enter Tryz.func47, Tryz.ntmps47
    go_wp2_with fail
    go_ret
    exact ⟨by rw [HF.out]; rfl, by have := HB.out; rw [HW.out] at this; exact this⟩
end Go.Proofs.YtgjebjoaemeeoaaGreatDoor.kit
