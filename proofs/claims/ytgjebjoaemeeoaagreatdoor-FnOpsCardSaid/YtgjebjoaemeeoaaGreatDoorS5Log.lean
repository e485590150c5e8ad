/-
  Chapter 5: what spec's and impl's IsLog return.
-/
import Derived.Test.YtgjebjoaemeeoaaGreatDoorS5Plain
import Derived.Test.YtgjebjoaemeeoaaGreatDoorS3Impl
import Derived.Test.YtgjebjoaemeeoaaGreatDoorLater
import Derived.Test.YtgjebjoaemeeoaaGreatDoorKept
namespace Go.Proofs.YtgjebjoaemeeoaaGreatDoor.kit
open Go.ChangeShapes Go.WideShapes Go.ChangeAt Go.RowKit
set_option linter.unusedVariables false

set_option maxRecDepth 100000 in
set_option maxHeartbeats 4000000 in
theorem specIsLogA (a : Option Addr) (c : Nat) (L : List Ent) (w : World) (hl : L.length ≤ 2097152) (ha : AtE w a L) :
    Calls Tryz.prog 18 #[.slice a L.length c] w fun e w' => e = .returned (.bool (decide (LOk L))) ∧ Below w.heap.size w w' := by
  have HA := Lib.hid ha
  clear ha
  go_enter Tryz.func18, Tryz.ntmps18
  go_wp2_with fail
  go_loopw [3] (fun i wr => ∃ k : Nat, k ≤ L.length ∧ i = .int .i64 k ∧ Hid (∀ j, j < k → entAsc L j) ∧ Hid (Below w.heap.size w wr)) (fun i _ => L.length - (intOf i).toNat)
  case atStart => exact ⟨0, Nat.zero_le _, rfl, Lib.hid (fun j h => by omega), Lib.hid (Below.refl _ _)⟩
  case round =>
    obtain ⟨k, hk, rfl, HE, HQ⟩ := hrel
    by_cases hlt : k < L.length
    · skip
      obtain ⟨g, o, rfl, hg, hc⟩ := HA.out k hlt
      obtain ⟨c0, c1, c2, c3, c4, c5, c6⟩ := hc.below HQ.out hg
      have hpr : 0 < k → wr.cell? ⟨g, o + (k - 1) * 7, none⟩ = some (.int .i64 (gE L (k - 1)).e) := fun h0 => by
        obtain ⟨g', o', he, hg', hc'⟩ := HA.out (k - 1) (by omega)
        cases he
        exact (hc'.below HQ.out hg').c0
      obtain ⟨xe, xc, xs, xk, xo, xd, xv, hx⟩ : ∃ xe xc xs xk xo xd xv, gE L k = ⟨xe, xc, xs, xk, xo, xd, xv⟩ := ⟨_, _, _, _, _, _, _, rfl⟩
      rw [hx] at c0 c1 c2 c3 c4 c5 c6
      simp only at c0 c1 c2 c3 c4 c5 c6
      have HX := Lib.hid hx
      clear hx hc
      have hgr : g < wr.heap.size := Nat.lt_of_lt_of_le hg HQ.out.size
      have q0 := LaterOf.cell (a := ⟨g, o + k * 7, none⟩) hgr c0
      have q1 := LaterOf.cell (a := ⟨g, o + k * 7 + 1, none⟩) hgr c1
      have q2 := LaterOf.cell (a := ⟨g, o + k * 7 + 2, none⟩) hgr c2
      have q3 := LaterOf.cell (a := ⟨g, o + k * 7 + 3, none⟩) hgr c3
      have q4 := LaterOf.cell (a := ⟨g, o + k * 7 + 4, none⟩) hgr c4
      have q5 := LaterOf.cell (a := ⟨g, o + k * 7 + 5, none⟩) hgr c5
      have q6 := LaterOf.cell (a := ⟨g, o + k * 7 + 6, none⟩) hgr c6
      clear c0 c1 c2 c3 c4 c5 c6
      have j1 := fun W => same_below (in_c xe 1 20 W)
      have j2 := fun W => specIsValidOp xc xs xk xo xd xv W
      unfold opV at j2
      rw [show decide (1 ≤ xe ∧ xe ≤ 20) = okE xe from rfl] at j1
      have J1 : ∀ W, Hid _ := fun W => Lib.hid (j1 W)
      have J2 : ∀ W, Hid _ := fun W => Lib.hid (j2 W)
      clear j1 j2
      have k3 : (0 : Int) ≤ (k : Int) := by omega
      have k5 : (k : Int) < (L.length : Int) := by omega
      go_wp2_with fail
      cases hE : okE xe with
      | false =>
        have HF := Lib.hid (not_LOk_bad hlt (by rw [HX.out]; simp [entOk, hE]))
        rw [hE] at J1
        clear hE hpr
        refine wp_region_later (by kernel_rfl) (by kernel_rfl) ?_
        repeat (go_big_quiet_step (first | (with_reducible exact Calls.later_of (J1 _).out) | (with_reducible exact Calls.later_of (J2 _).out)))
        refine wpQuiet_nil ?_
        intro _ hw'
        obtain ⟨⟨wz, hwz⟩, hw''⟩ := hw'
        subst hw''
        have HZ := Lib.hid (HQ.out.trans (hwz.mono HQ.out.size))
        clear hwz
        go_wp2_with fail
        go_ret
        exact ⟨by rw [HF.out]; rfl, HZ.out⟩
      | true =>
        rw [hE] at J1
        cases hO : okOp xc xs xk xo xd xv with
        | false =>
          have HF := Lib.hid (not_LOk_bad hlt (by rw [HX.out]; simp [entOk, hO]))
          rw [hO] at J2
          clear hE hO hpr
          refine wp_region_later (by kernel_rfl) (by kernel_rfl) ?_
          repeat (go_big_quiet_step (first | (with_reducible exact Calls.later_of (J1 _).out) | (with_reducible exact Calls.later_of (J2 _).out)))
          refine wpQuiet_nil ?_
          intro _ hw'
          obtain ⟨⟨wz, hwz⟩, hw''⟩ := hw'
          subst hw''
          have HZ := Lib.hid (HQ.out.trans (hwz.mono HQ.out.size))
          clear hwz
          go_wp2_with fail
          go_ret
          exact ⟨by rw [HF.out]; rfl, HZ.out⟩
        | true =>
          have HOK := Lib.hid (show entOk (gE L k) = true by rw [HX.out]; simp [entOk, hE, hO])
          rw [hO] at J2
          clear hE hO
          by_cases h0 : 0 < k
          · have pr := hpr h0
            clear hpr
            have i1 : decide ((0 : Int) < (k : Int)) = true := by simp; omega
            have i2 : IntKind.i64.wrap ((k : Int) - 1) = (k : Int) - 1 := IntWalk.i64_in _ (by omega)
            have i3 : (0 : Int) ≤ (k : Int) - 1 := by omega
            have i4 : ((k : Int) - 1).toNat = k - 1 := by omega
            have i5 : (k : Int) - 1 < (L.length : Int) := by omega
            have p0 := LaterOf.cell (a := ⟨g, o + (k - 1) * 7, none⟩) hgr pr
            by_cases hq : xe < (gE L (k - 1)).e
            · have HF := Lib.hid (not_LOk_asc hlt h0 (by rw [HX.out]; exact hq))
              have hq' : decide (xe < (gE L (k - 1)).e) = true := decide_eq_true hq
              clear hq
              generalize (gE L (k - 1)).e = ye at *
              refine wp_region_later (by kernel_rfl) (by kernel_rfl) ?_
              repeat (go_big_quiet_step (first | (with_reducible exact Calls.later_of (J1 _).out) | (with_reducible exact Calls.later_of (J2 _).out)))
              refine wpQuiet_nil ?_
              intro _ hw'
              obtain ⟨⟨wz, hwz⟩, hw''⟩ := hw'
              subst hw''
              have HZ := Lib.hid (HQ.out.trans (hwz.mono HQ.out.size))
              clear hwz
              go_wp2_with fail
              go_ret
              exact ⟨by rw [HF.out]; rfl, HZ.out⟩
            · have HE2 := Lib.hid (show ∀ j, j < k + 1 → entAsc L j from fun j hj => by
                by_cases e : j = k
                · rw [e]; exact ⟨HOK.out, fun _ => by rw [HX.out]; simp only; omega⟩
                · exact HE.out j (by omega))
              have hq' : decide (xe < (gE L (k - 1)).e) = false := decide_eq_false hq
              clear hq
              generalize (gE L (k - 1)).e = ye at *
              refine wp_region_later (by kernel_rfl) (by kernel_rfl) ?_
              repeat (go_big_quiet_step (first | (with_reducible exact Calls.later_of (J1 _).out) | (with_reducible exact Calls.later_of (J2 _).out)))
              refine wpQuiet_nil ?_
              intro _ hw'
              obtain ⟨⟨wz, hwz⟩, hw''⟩ := hw'
              subst hw''
              have HZ := Lib.hid (HQ.out.trans (hwz.mono HQ.out.size))
              clear hwz
              go_wp2_with fail
              go_roundw
              case rel => exact ⟨k + 1, by omega, by go_num, HE2, HZ⟩
              case measure => simp [intOf]; omega
          · have i1 : decide ((0 : Int) < (k : Int)) = false := by simp; omega
            have HE2 := Lib.hid (show ∀ j, j < k + 1 → entAsc L j from fun j hj => by
                by_cases e : j = k
                · rw [e]; exact ⟨HOK.out, fun h => absurd h h0⟩
                · exact HE.out j (by omega))
            clear hpr
            refine wp_region_later (by kernel_rfl) (by kernel_rfl) ?_
            repeat (go_big_quiet_step (first | (with_reducible exact Calls.later_of (J1 _).out) | (with_reducible exact Calls.later_of (J2 _).out)))
            refine wpQuiet_nil ?_
            intro _ hw'
            obtain ⟨⟨wz, hwz⟩, hw''⟩ := hw'
            subst hw''
            have HZ := Lib.hid (HQ.out.trans (hwz.mono HQ.out.size))
            clear hwz
            go_wp2_with fail
            go_roundw
            case rel => exact ⟨k + 1, by omega, by go_num, HE2, HZ⟩
            case measure => simp [intOf]; omega
    · obtain rfl : k = L.length := by omega
      by_cases h16 : L.length ≤ 16
      · have HF := Lib.hid (show decide (LOk L) = true from decide_eq_true ⟨HE.out, h16⟩)
        have h16' : decide ((L.length : Int) ≤ 16) = true := decide_eq_true (by omega)
        clear h16
        go_wp2_with fail
        go_ret
        exact ⟨by rw [HF.out]; rfl, HQ.out⟩
      · have HF := Lib.hid (not_LOk_len (l := L) (by omega))
        have h16' : decide ((L.length : Int) ≤ 16) = false := decide_eq_false (by omega)
        clear h16
        go_wp2_with fail
        go_ret
        exact ⟨by rw [HF.out]; rfl, HQ.out⟩
theorem isEpoch_c (x : Int) (w : World) : Calls Tryz.prog 73 #[.int .i64 x] w fun e w' => e = .returned (.bool (okE x)) ∧ w = w' := by
  unfold okE
  by_cases h1 : 1 ≤ x
  · by_cases h2 : x ≤ 20
    · rw [decide_eq_true (by omega : 1 ≤ x ∧ x ≤ 20)]
      have f1 : decide (1 ≤ x) = true := decide_eq_true h1
      have f2 : decide (x ≤ 20) = true := decide_eq_true h2
      clear h1 h2
      go_enter Tryz.func73, Tryz.ntmps73
      go_wp2_with fail
      go_returns
      exact ⟨rfl, rfl⟩
    · rw [decide_eq_false (by omega : ¬ (1 ≤ x ∧ x ≤ 20))]
      have f1 : decide (1 ≤ x) = true := decide_eq_true h1
      have f2 : decide (x ≤ 20) = false := decide_eq_false h2
      clear h1 h2
      go_enter Tryz.func73, Tryz.ntmps73
      go_wp2_with fail
      go_returns
      exact ⟨rfl, rfl⟩
  · rw [decide_eq_false (by omega : ¬ (1 ≤ x ∧ x ≤ 20))]
    have f1 : decide (1 ≤ x) = false := decide_eq_false h1
    clear h1
    go_enter Tryz.func73, Tryz.ntmps73
    go_wp2_with fail
    go_returns
    exact ⟨rfl, rfl⟩
set_option maxRecDepth 100000 in
set_option maxHeartbeats 4000000 in
theorem implIsLogA (a : Option Addr) (c : Nat) (L : List Ent) (w : World) (hl : L.length ≤ 2097152) (ha : AtE w a L) :
    Calls Tryz.prog 38 #[.slice a L.length c] w fun e w' => e = .returned (.bool (decide (LOk L))) ∧ Below w.heap.size w w' := by
  have HA := Lib.hid ha
  clear ha
  by_cases h16 : 16 < L.length
  · have HF := Lib.hid (not_LOk_len h16)
    have h16' : decide (16 < (L.length : Int)) = true := decide_eq_true (by omega)
    clear h16
    go_enter Tryz.func38, Tryz.ntmps38
    go_wp2_with fail
    go_ret
    exact ⟨by rw [HF.out]; rfl, Below.refl _ _⟩
  · have h16' : decide (16 < (L.length : Int)) = false := decide_eq_false (by omega)
    have H16 := Lib.hid h16
    clear h16
    go_enter Tryz.func38, Tryz.ntmps38
    go_wp2_with fail
    clear h16'
    go_loopw [10] (fun i wr => ∃ k : Nat, k ≤ L.length ∧ i = .int .i64 k ∧ Hid (∀ j, j < k → entAsc L j) ∧ Hid (Below w.heap.size w wr)) (fun i _ => L.length - (intOf i).toNat)
    case atStart => exact ⟨0, Nat.zero_le _, rfl, Lib.hid (fun j h => by omega), Lib.hid (Below.refl _ _)⟩
    case round =>
      obtain ⟨k, hk, rfl, HE, HQ⟩ := hrel
      by_cases hlt : k < L.length
      · skip
        obtain ⟨g, o, rfl, hg, hc⟩ := HA.out k hlt
        obtain ⟨c0, c1, c2, c3, c4, c5, c6⟩ := hc.below HQ.out hg
        have hpr : 0 < k → wr.cell? ⟨g, o + (k - 1) * 7, none⟩ = some (.int .i64 (gE L (k - 1)).e) := fun h0 => by
          obtain ⟨g', o', he, hg', hc'⟩ := HA.out (k - 1) (by omega)
          cases he
          exact (hc'.below HQ.out hg').c0
        obtain ⟨xe, xc, xs, xk, xo, xd, xv, hx⟩ : ∃ xe xc xs xk xo xd xv, gE L k = ⟨xe, xc, xs, xk, xo, xd, xv⟩ := ⟨_, _, _, _, _, _, _, rfl⟩
        rw [hx] at c0 c1 c2 c3 c4 c5 c6
        simp only at c0 c1 c2 c3 c4 c5 c6
        have HX := Lib.hid hx
        clear hx hc
        have hgr : g < wr.heap.size := Nat.lt_of_lt_of_le hg HQ.out.size
        have j1 := fun W => same_below (isEpoch_c xe W)
        have j2 := fun W => implIsValidOp xc xs xk xo xd xv W
        unfold opV at j2
        have J1 : ∀ W, Hid _ := fun W => Lib.hid (j1 W)
        have J2 : ∀ W, Hid _ := fun W => Lib.hid (j2 W)
        clear j1 j2
        go_wp2_with fail
        obtain ⟨wy, hwy⟩ : ∃ W, W = wr.alloc (.cells #[.int .i64 xe, .int .i64 xc, .int .i64 xs, .int .i64 xk, .int .i64 xo, .int .i64 xd, .int .i64 xv] 75) := ⟨_, rfl⟩
        rw [← hwy]
        obtain ⟨pb, hpb⟩ : ∃ p, p = wr.heap.size := ⟨_, rfl⟩
        rw [← hpb]
        have z0 : wy.cell? ⟨pb, 0, none⟩ = some (.int .i64 xe) := by rw [hwy, hpb, World.cell?_alloc_at _ _ _ _ rfl]; rfl
        have z1 : wy.cell? ⟨pb, 1, none⟩ = some (.int .i64 xc) := by rw [hwy, hpb, World.cell?_alloc_at _ _ _ _ rfl]; rfl
        have z2 : wy.cell? ⟨pb, 2, none⟩ = some (.int .i64 xs) := by rw [hwy, hpb, World.cell?_alloc_at _ _ _ _ rfl]; rfl
        have z3 : wy.cell? ⟨pb, 3, none⟩ = some (.int .i64 xk) := by rw [hwy, hpb, World.cell?_alloc_at _ _ _ _ rfl]; rfl
        have z4 : wy.cell? ⟨pb, 4, none⟩ = some (.int .i64 xo) := by rw [hwy, hpb, World.cell?_alloc_at _ _ _ _ rfl]; rfl
        have z5 : wy.cell? ⟨pb, 5, none⟩ = some (.int .i64 xd) := by rw [hwy, hpb, World.cell?_alloc_at _ _ _ _ rfl]; rfl
        have z6 : wy.cell? ⟨pb, 6, none⟩ = some (.int .i64 xv) := by rw [hwy, hpb, World.cell?_alloc_at _ _ _ _ rfl]; rfl
        have hby : Below wr.heap.size wr wy := by rw [hwy]; exact (Below.refl _ _).alloc (Nat.le_refl _) _
        have hpy : pb < wy.heap.size := by rw [hwy, hpb]; simp
        have hgy : g < wy.heap.size := Nat.lt_of_lt_of_le hgr hby.size
        have HY := Lib.hid (HQ.out.trans (hby.mono HQ.out.size))
        have q0 := LaterOf.cell (a := ⟨pb, 0, none⟩) hpy z0
        have q1 := LaterOf.cell (a := ⟨pb, 1, none⟩) hpy z1
        have q2 := LaterOf.cell (a := ⟨pb, 2, none⟩) hpy z2
        have q3 := LaterOf.cell (a := ⟨pb, 3, none⟩) hpy z3
        have q4 := LaterOf.cell (a := ⟨pb, 4, none⟩) hpy z4
        have q5 := LaterOf.cell (a := ⟨pb, 5, none⟩) hpy z5
        have q6 := LaterOf.cell (a := ⟨pb, 6, none⟩) hpy z6
        clear c0 c1 c2 c3 c4 c5 c6 z0 z1 z2 z3 z4 z5 z6 hwy hpb
        cases hE : okE xe with
        | false =>
          have HF := Lib.hid (not_LOk_bad hlt (by rw [HX.out]; simp [entOk, hE]))
          rw [hE] at J1
          clear hE hpr
          clear hby
          refine wp_region_later (by kernel_rfl) (by kernel_rfl) ?_
          repeat (go_big_quiet_step (first | (with_reducible exact Calls.later_of (J1 _).out) | (with_reducible exact Calls.later_of (J2 _).out)))
          refine wpQuiet_nil ?_
          intro _ hw'
          obtain ⟨⟨wz, hwz⟩, hw''⟩ := hw'
          subst hw''
          have HZ := Lib.hid (HY.out.trans (hwz.mono HY.out.size))
          clear hwz
          go_wp2_with fail
          go_ret
          exact ⟨by rw [HF.out]; rfl, HZ.out⟩
        | true =>
          rw [hE] at J1
          cases hO : okOp xc xs xk xo xd xv with
          | false =>
            have HF := Lib.hid (not_LOk_bad hlt (by rw [HX.out]; simp [entOk, hO]))
            rw [hO] at J2
            clear hE hO hpr
            clear hby
            refine wp_region_later (by kernel_rfl) (by kernel_rfl) ?_
            repeat (go_big_quiet_step (first | (with_reducible exact Calls.later_of (J1 _).out) | (with_reducible exact Calls.later_of (J2 _).out)))
            refine wpQuiet_nil ?_
            intro _ hw'
            obtain ⟨⟨wz, hwz⟩, hw''⟩ := hw'
            subst hw''
            have HZ := Lib.hid (HY.out.trans (hwz.mono HY.out.size))
            clear hwz
            go_wp2_with fail
            go_ret
            exact ⟨by rw [HF.out]; rfl, HZ.out⟩
          | true =>
            have HOK := Lib.hid (show entOk (gE L k) = true by rw [HX.out]; simp [entOk, hE, hO])
            rw [hO] at J2
            clear hE hO
            by_cases h0 : 0 < k
            · have pr := hpr h0
              clear hpr
              have i1 : decide ((0 : Int) < (k : Int)) = true := by simp; omega
              have i2 : IntKind.i64.wrap ((k : Int) - 1) = (k : Int) - 1 := IntWalk.i64_in _ (by omega)
              have i3 : (0 : Int) ≤ (k : Int) - 1 := by omega
              have i4 : ((k : Int) - 1).toNat = k - 1 := by omega
              have i5 : (k : Int) - 1 < (L.length : Int) := by omega
              have p0 := LaterOf.cell (a := ⟨g, o + (k - 1) * 7, none⟩) hgy ((hby.cell (p := ⟨g, o + (k - 1) * 7, none⟩) hgr).trans pr)
              by_cases hq : xe < (gE L (k - 1)).e
              · have HF := Lib.hid (not_LOk_asc hlt h0 (by rw [HX.out]; exact hq))
                have hq' : decide (xe < (gE L (k - 1)).e) = true := decide_eq_true hq
                clear hq
                generalize (gE L (k - 1)).e = ye at *
                clear hby
                refine wp_region_later (by kernel_rfl) (by kernel_rfl) ?_
                repeat (go_big_quiet_step (first | (with_reducible exact Calls.later_of (J1 _).out) | (with_reducible exact Calls.later_of (J2 _).out)))
                refine wpQuiet_nil ?_
                intro _ hw'
                obtain ⟨⟨wz, hwz⟩, hw''⟩ := hw'
                subst hw''
                have HZ := Lib.hid (HY.out.trans (hwz.mono HY.out.size))
                clear hwz
                go_wp2_with fail
                go_ret
                exact ⟨by rw [HF.out]; rfl, HZ.out⟩
              · have HE2 := Lib.hid (show ∀ j, j < k + 1 → entAsc L j from fun j hj => by
                  by_cases e : j = k
                  · rw [e]; exact ⟨HOK.out, fun _ => by rw [HX.out]; simp only; omega⟩
                  · exact HE.out j (by omega))
                have hq' : decide (xe < (gE L (k - 1)).e) = false := decide_eq_false hq
                clear hq
                generalize (gE L (k - 1)).e = ye at *
                clear hby
                refine wp_region_later (by kernel_rfl) (by kernel_rfl) ?_
                repeat (go_big_quiet_step (first | (with_reducible exact Calls.later_of (J1 _).out) | (with_reducible exact Calls.later_of (J2 _).out)))
                refine wpQuiet_nil ?_
                intro _ hw'
                obtain ⟨⟨wz, hwz⟩, hw''⟩ := hw'
                subst hw''
                have HZ := Lib.hid (HY.out.trans (hwz.mono HY.out.size))
                clear hwz
                go_wp2_with fail
                go_roundw
                case rel => exact ⟨k + 1, by omega, by go_num, HE2, HZ⟩
                case measure => simp [intOf]; omega
            · have i1 : decide ((0 : Int) < (k : Int)) = false := by simp; omega
              have HE2 := Lib.hid (show ∀ j, j < k + 1 → entAsc L j from fun j hj => by
                  by_cases e : j = k
                  · rw [e]; exact ⟨HOK.out, fun h => absurd h h0⟩
                  · exact HE.out j (by omega))
              clear hpr
              clear hby
              refine wp_region_later (by kernel_rfl) (by kernel_rfl) ?_
              repeat (go_big_quiet_step (first | (with_reducible exact Calls.later_of (J1 _).out) | (with_reducible exact Calls.later_of (J2 _).out)))
              refine wpQuiet_nil ?_
              intro _ hw'
              obtain ⟨⟨wz, hwz⟩, hw''⟩ := hw'
              subst hw''
              have HZ := Lib.hid (HY.out.trans (hwz.mono HY.out.size))
              clear hwz
              go_wp2_with fail
              go_roundw
              case rel => exact ⟨k + 1, by omega, by go_num, HE2, HZ⟩
              case measure => simp [intOf]; omega
      · obtain rfl : k = L.length := by omega
        have HF := Lib.hid (show decide (LOk L) = true from decide_eq_true ⟨HE.out, by have := H16.out; omega⟩)
        go_wp2_with fail
        go_ret
        exact ⟨by rw [HF.out]; rfl, HQ.out⟩
theorem specIsLog (b : Nat) (v : Value) (L : List Ent) (w : World) (hl : L.length ≤ 2097152) (o : OwnE b w v L) :
    Calls Tryz.prog 18 #[v] w fun e w' => e = .returned (.bool (decide (LOk L))) ∧ Below w.heap.size w w' := by
  obtain ⟨a, c, rfl, _, _, t, _⟩ := o.form
  exact specIsLogA a c L w hl t
theorem implIsLog (b : Nat) (v : Value) (L : List Ent) (w : World) (hl : L.length ≤ 2097152) (o : OwnE b w v L) :
    Calls Tryz.prog 38 #[v] w fun e w' => e = .returned (.bool (decide (LOk L))) ∧ Below w.heap.size w w' := by
  obtain ⟨a, c, rfl, _, _, t, _⟩ := o.form
  exact implIsLogA a c L w hl t
end Go.Proofs.YtgjebjoaemeeoaaGreatDoor.kit
