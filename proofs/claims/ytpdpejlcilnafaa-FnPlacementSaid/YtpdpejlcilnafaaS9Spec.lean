/-
  Chapter 9: what spec's ArePlaces, HasRoom, RacksOf, PickSpare, IsSpread and CountMoves return.
-/
import Derived.Test.YtpdpejlcilnafaaS9Math
import Derived.Test.YtpdpejlcilnafaaC2Sets
import Derived.Test.YtpdpejlcilnafaaLater
namespace Go.Proofs.Ytpdpejlcilnafaa.kit
open Go.ChangeShapes Go.WideShapes Go.ChangeAt Go.RowKit
set_option linter.unusedVariables false
set_option linter.unusedSimpArgs false

theorem atQ_low' {w : World} {a : Option Addr} {l : List Pla} (h : AtQ w a l) : ∀ x : Addr, a = some x → 0 < l.length → x.block < w.heap.size := atQ_low h
/-- the cells of one place -/
theorem AtQ.at {w : World} {a : Option Addr} {L : List Pla} (h : AtQ w a L) {k : Nat} (hk : k < L.length) : ∃ g o : Nat, a = some ⟨g, o, none⟩ ∧ g < w.heap.size ∧ PlaAt w g (o + k * 3) (gQ L k) := h k hk
theorem inB (x a b : Int) (w : World) : Calls Try.prog 49 #[.int .i64 x, .int .i64 a, .int .i64 b] w fun e w' => e = .returned (.bool (decide (a ≤ x ∧ x ≤ b))) ∧ w = w' := by
  by_cases h : a ≤ x ∧ x ≤ b
  · rw [decide_eq_true h]; exact in_true x a b w h.1 h.2
  · rw [decide_eq_false h]; exact in_false x a b w (by omega)
theorem plaOk_parts (p : Pla) : plaOk p = (decide (0 ≤ p.r ∧ p.r ≤ 9) && (decide (0 ≤ p.c ∧ p.c ≤ 9) && decide (0 ≤ p.l ∧ p.l ≤ 99))) := by
  unfold plaOk
  rw [Bool.eq_iff_iff]
  simp [and_assoc]
set_option maxRecDepth 100000 in
set_option maxHeartbeats 4000000 in
theorem specArePlacesA (a : Option Addr) (cp : Nat) (L : List Pla) (w : World) (hl : L.length ≤ 2097152) (ha : AtQ w a L) :
    Calls Try.prog 16 #[.slice a L.length cp] w fun e w' => e = .returned (.bool (arePl L)) ∧ w = w' := by
  have HA := Lib.hid ha
  clear ha
  go_enter Try.func16, Try.ntmps16
  go_wp2_with fail
  go_loop [3] (fun i => ∃ k : Nat, k ≤ L.length ∧ i = .int .i64 k ∧ Hid (∀ j, j < k → plaOk (gQ L j) = true)) (fun i => L.length - (intOf i).toNat)
  case atStart => exact ⟨0, Nat.zero_le _, rfl, Lib.hid (fun j h => by omega)⟩
  case round =>
    obtain ⟨k, hk, rfl, HE⟩ := hrel
    by_cases hlt : k < L.length
    · obtain ⟨g, o, rfl, hg, hc⟩ := HA.out.at hlt
      obtain ⟨c0, c1, c2⟩ := hc
      have hp := plaOk_parts (gQ L k)
      obtain ⟨xr, hr⟩ : ∃ x, (gQ L k).r = x := ⟨_, rfl⟩
      obtain ⟨xc, hcc⟩ : ∃ x, (gQ L k).c = x := ⟨_, rfl⟩
      obtain ⟨xl, hxl⟩ : ∃ x, (gQ L k).l = x := ⟨_, rfl⟩
      rw [hr, hcc, hxl] at hp
      rw [hr] at c0; rw [hcc] at c1; rw [hxl] at c2
      clear hr hcc hxl
      have j1 := fun W => inB xr 0 9 W
      have j2 := fun W => inB xc 0 9 W
      have j3 := fun W => inB xl 0 99 W
      generalize decide (0 ≤ xr ∧ xr ≤ 9) = b1 at *
      generalize decide (0 ≤ xc ∧ xc ≤ 9) = b2 at *
      generalize decide (0 ≤ xl ∧ xl ≤ 99) = b3 at *
      cases b1 with
      | false =>
        have J1 := Lib.hid j1; have J2 := Lib.hid j2; have J3 := Lib.hid j3
        have hok : plaOk (gQ L k) = false := by rw [hp]; rfl
        clear j1 j2 j3 hp
        have HF := Lib.hid (show arePl L = false from arePl_no hlt hok)
        clear hok
        go_wp2_with (go_at_call 49; first | (with_reducible refine (J1.out _).mono ?_; rintro e w1 ⟨rfl, rfl⟩) | (with_reducible refine (J2.out _).mono ?_; rintro e w1 ⟨rfl, rfl⟩) | (with_reducible refine (J3.out _).mono ?_; rintro e w1 ⟨rfl, rfl⟩))
        go_ret
        exact ⟨by rw [HF.out]; rfl, rfl⟩
      | true =>
        cases b2 with
        | false =>
          have J1 := Lib.hid j1; have J2 := Lib.hid j2; have J3 := Lib.hid j3
          have hok : plaOk (gQ L k) = false := by rw [hp]; rfl
          clear j1 j2 j3 hp
          have HF := Lib.hid (show arePl L = false from arePl_no hlt hok)
          clear hok
          go_wp2_with (go_at_call 49; first | (with_reducible refine (J1.out _).mono ?_; rintro e w1 ⟨rfl, rfl⟩) | (with_reducible refine (J2.out _).mono ?_; rintro e w1 ⟨rfl, rfl⟩) | (with_reducible refine (J3.out _).mono ?_; rintro e w1 ⟨rfl, rfl⟩))
          go_ret
          exact ⟨by rw [HF.out]; rfl, rfl⟩
        | true =>
          cases b3 with
          | false =>
            have J1 := Lib.hid j1; have J2 := Lib.hid j2; have J3 := Lib.hid j3
            have hok : plaOk (gQ L k) = false := by rw [hp]; rfl
            clear j1 j2 j3 hp
            have HF := Lib.hid (show arePl L = false from arePl_no hlt hok)
            clear hok
            go_wp2_with (go_at_call 49; first | (with_reducible refine (J1.out _).mono ?_; rintro e w1 ⟨rfl, rfl⟩) | (with_reducible refine (J2.out _).mono ?_; rintro e w1 ⟨rfl, rfl⟩) | (with_reducible refine (J3.out _).mono ?_; rintro e w1 ⟨rfl, rfl⟩))
            go_ret
            exact ⟨by rw [HF.out]; rfl, rfl⟩
          | true =>
            have J1 := Lib.hid j1; have J2 := Lib.hid j2; have J3 := Lib.hid j3
            have hok : plaOk (gQ L k) = true := by rw [hp]; rfl
            have HE2 := Lib.hid (show ∀ j, j < k + 1 → plaOk (gQ L j) = true from fun j hj => by
              by_cases e : j = k
              · rw [e]; exact hok
              · exact HE.out j (by omega))
            clear j1 j2 j3 hp hok
            go_wp2_with (go_at_call 49; first | (with_reducible refine (J1.out _).mono ?_; rintro e w1 ⟨rfl, rfl⟩) | (with_reducible refine (J2.out _).mono ?_; rintro e w1 ⟨rfl, rfl⟩) | (with_reducible refine (J3.out _).mono ?_; rintro e w1 ⟨rfl, rfl⟩))
            go_round
            case rel => exact ⟨k + 1, by omega, by go_num, HE2⟩
            case measure => simp [intOf]; omega
    · have HF := Lib.hid (show arePl L = decide (L.length = 5) from arePl_all (fun j hj => HE.out j (by omega)))
      by_cases h5 : L.length = 5
      · have HF2 := Lib.hid (HF.out.trans (decide_eq_true h5))
        have t5 : ((L.length : Int) == 5) = true := by rw [beq_iff_eq]; omega
        have t5' : (L.length == 5) = true := by rw [beq_iff_eq]; exact h5
        have H5 := Lib.hid h5
        clear h5
        go_wp2_with fail
        go_ret
        exact ⟨by rw [HF2.out]; first | rfl | (simp; done) | (simp [H5.out]; done), rfl⟩
      · have HF2 := Lib.hid (HF.out.trans (decide_eq_false h5))
        have t5 : ((L.length : Int) == 5) = false := by rw [beq_eq_false_iff_ne]; omega
        have t5' : (L.length == 5) = false := by rw [beq_eq_false_iff_ne]; exact h5
        have H5 := Lib.hid h5
        clear h5
        go_wp2_with fail
        go_ret
        exact ⟨by rw [HF2.out]; first | rfl | (simp; done) | (simp [H5.out]; done), rfl⟩
theorem specArePlaces (b : Nat) (v : Value) (L : List Pla) (w : World) (h : L.length ≤ 2097152) (o : OwnQ b w v L) :
    Calls Try.prog 16 #[v] w fun e w' => e = .returned (.bool (arePl L)) ∧ Below w.heap.size w w' := by
  obtain ⟨a, c, rfl, _, _, at1, _⟩ := o.form
  exact (specArePlacesA a c L w h at1).mono fun e w' ⟨he, hw⟩ => ⟨he, hw ▸ Below.refl _ _⟩
theorem roomP_no {L : List Pla} {id : Int} (h : arePl L = false) : roomP L id = false := by unfold roomP; rw [h]; rfl
theorem roomP_out {L : List Pla} {id : Int} (h : ¬ (0 ≤ id ∧ id ≤ 4)) : roomP L id = false := by unfold roomP; rw [decide_eq_false (fun hh => h hh.1), Bool.and_false]
theorem roomP_at {L : List Pla} {k : Nat} (h : arePl L = true) (hk : k ≤ 4) : roomP L (k : Int) = decide ((gQ L k).l < (gQ L k).c) := by
  unfold roomP ldP cpP
  rw [h, Bool.true_and, Int.toNat_natCast, Bool.eq_iff_iff]
  simp
  omega
set_option maxRecDepth 100000 in
set_option maxHeartbeats 4000000 in
theorem specHasRoomA (a : Option Addr) (cp : Nat) (L : List Pla) (id : Int) (w : World) (hl : L.length ≤ 2097152) (ha : AtQ w a L) :
    Calls Try.prog 34 #[.slice a L.length cp, .int .i64 id] w fun e w' => e = .returned (.bool (roomP L id)) ∧ Below w.heap.size w w' := by
  have j1 := fun p : LaterOf w => same_below (specArePlacesA a cp L p.W hl (ha.later p.h))
  have j2 := fun p : LaterOf w => same_below (inB id 0 4 p.W)
  cases h1 : arePl L with
  | false =>
    rw [h1] at j1
    have J1 := Lib.hid j1; have J2 := Lib.hid j2
    have HF := Lib.hid (roomP_no (id := id) h1)
    clear h1 j1 j2 ha
    go_enter Try.func34, Try.ntmps34
    go_wp2_with fail
    refine wp_region_later (by kernel_rfl) (by kernel_rfl) ?_
    repeat (go_big_quiet_step (first | (with_reducible exact Calls.later_of (J1.out _)) | (with_reducible exact Calls.later_of (J2.out _))))
    refine wpQuiet_nil ?_
    intro _ hw'
    obtain ⟨⟨wz, hwz⟩, hw''⟩ := hw'
    subst hw''
    have HZ := Lib.hid hwz
    clear hwz
    go_wp2_with fail
    go_ret
    exact ⟨by rw [HF.out]; rfl, HZ.out⟩
  | true =>
    rw [h1] at j1
    by_cases h2 : 0 ≤ id ∧ id ≤ 4
    · rw [decide_eq_true h2] at j2
      obtain ⟨k, rfl⟩ := Int.eq_ofNat_of_zero_le h2.1
      have hlen := arePl_len h1
      have HF := Lib.hid (roomP_at h1 (k := k) (by omega))
      obtain ⟨g, o, rfl, hg, hc⟩ := ha.at (k := k) (by omega)
      obtain ⟨c0, c1, c2⟩ := hc
      generalize (gQ L k).l = xl at *
      generalize (gQ L k).c = xc at *
      have p1 := LaterOf.cell (a := ⟨g, o + k * 3 + 1, none⟩) hg c1
      have p2 := LaterOf.cell (a := ⟨g, o + k * 3 + 2, none⟩) hg c2
      have J1 := Lib.hid j1; have J2 := Lib.hid j2
      have k4 : k < L.length := by omega
      have k5 : (k : Int) < (L.length : Int) := by omega
      cases hr : decide (xl < xc) with
      | false =>
        have HR := Lib.hid (HF.out.trans hr)
        clear h1 h2 j1 j2 ha hlen HF c0 c1 c2
        go_enter Try.func34, Try.ntmps34
        go_wp2_with fail
        refine wp_region_later (by kernel_rfl) (by kernel_rfl) ?_
        repeat (go_big_quiet_step (first | (with_reducible exact Calls.later_of (J1.out _)) | (with_reducible exact Calls.later_of (J2.out _))))
        refine wpQuiet_nil ?_
        intro _ hw'
        obtain ⟨⟨wz, hwz⟩, hw''⟩ := hw'
        subst hw''
        have HZ := Lib.hid hwz
        clear hwz
        go_wp2_with fail
        go_ret
        exact ⟨by rw [HR.out]; rfl, HZ.out⟩
      | true =>
        have HR := Lib.hid (HF.out.trans hr)
        clear h1 h2 j1 j2 ha hlen HF c0 c1 c2
        go_enter Try.func34, Try.ntmps34
        go_wp2_with fail
        refine wp_region_later (by kernel_rfl) (by kernel_rfl) ?_
        repeat (go_big_quiet_step (first | (with_reducible exact Calls.later_of (J1.out _)) | (with_reducible exact Calls.later_of (J2.out _))))
        refine wpQuiet_nil ?_
        intro _ hw'
        obtain ⟨⟨wz, hwz⟩, hw''⟩ := hw'
        subst hw''
        have HZ := Lib.hid hwz
        clear hwz
        go_wp2_with fail
        go_ret
        exact ⟨by rw [HR.out]; rfl, HZ.out⟩
    · rw [decide_eq_false h2] at j2
      have J1 := Lib.hid j1; have J2 := Lib.hid j2
      have HR := Lib.hid (roomP_out (L := L) h2)
      clear h1 h2 j1 j2 ha
      go_enter Try.func34, Try.ntmps34
      go_wp2_with fail
      refine wp_region_later (by kernel_rfl) (by kernel_rfl) ?_
      repeat (go_big_quiet_step (first | (with_reducible exact Calls.later_of (J1.out _)) | (with_reducible exact Calls.later_of (J2.out _))))
      refine wpQuiet_nil ?_
      intro _ hw'
      obtain ⟨⟨wz, hwz⟩, hw''⟩ := hw'
      subst hw''
      have HZ := Lib.hid hwz
      clear hwz
      go_wp2_with fail
      go_ret
      exact ⟨by rw [HR.out]; rfl, HZ.out⟩
theorem specHasRoom (b : Nat) (v : Value) (L : List Pla) (id : Int) (w : World) (h : L.length ≤ 2097152) (o : OwnQ b w v L) :
    Calls Try.prog 34 #[v, .int .i64 id] w fun e w' => e = .returned (.bool (roomP L id)) ∧ Below w.heap.size w w' := by
  obtain ⟨a, c, rfl, _, _, at1, _⟩ := o.form
  exact specHasRoomA a c L id w h at1
end Go.Proofs.Ytpdpejlcilnafaa.kit
