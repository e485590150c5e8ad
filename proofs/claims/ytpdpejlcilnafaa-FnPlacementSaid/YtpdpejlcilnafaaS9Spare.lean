/-
  Chapter 9: what spec's PickSpare and IsSpread return.
-/
import Derived.Test.YtpdpejlcilnafaaS9Spec2
namespace Go.Proofs.Ytpdpejlcilnafaa.kit
open Go.ChangeShapes Go.WideShapes Go.ChangeAt Go.RowKit
set_option linter.unusedVariables false
set_option linter.unusedSimpArgs false

set_option maxRecDepth 100000 in
set_option maxHeartbeats 4000000 in
theorem specBetterA (a : Option Addr) (cp : Nat) (L : List Pla) (b : Option Addr) (cb : Nat) (R : List Int) (i j : Nat) (w : World) (hl : L.length ≤ 2097152) (hr : R.length ≤ 4194304) (ha : AtQ w a L) (hb : At w b R) (hi : i < L.length) (hj : j < L.length) :
    Calls Try.prog 57 #[.slice a L.length cp, .slice b R.length cb, .int .i64 i, .int .i64 j] w fun e w' => e = .returned (.bool (betterP L R i j)) ∧ Drawn w w' := by
  obtain ⟨g, o, rfl, hg, hc⟩ := ha.at hi
  obtain ⟨g', o', he, hg', hc'⟩ := ha.at hj
  cases he
  have c0 := hc.c0; have c2 := hc.c2; have d0 := hc'.c0; have d2 := hc'.c2
  have hf : betterP L R (i : Int) (j : Int) = if (decide ((gQ L i).r ∈ R) != decide ((gQ L j).r ∈ R)) = true then decide ((gQ L j).r ∈ R) else decide ((gQ L i).l < (gQ L j).l) := by
    unfold betterP rkP ldP; rw [Int.toNat_natCast, Int.toNat_natCast]
  generalize (gQ L i).r = xr at *
  generalize (gQ L j).r = yr at *
  generalize (gQ L i).l = xl at *
  generalize (gQ L j).l = yl at *
  have j1 := specHas_any b cb R xr w hr hb
  have j2 := specHas_any b cb R yr w hr hb
  have i1 : (i : Int) < (L.length : Int) := by omega
  have i2 : (j : Int) < (L.length : Int) := by omega
  generalize decide (xr ∈ R) = X at *
  generalize decide (yr ∈ R) = Y at *
  have J1 := Lib.hid j1; have J2 := Lib.hid j2
  clear j1 j2 ha hb hc hc'
  cases X with
  | false =>
    cases Y with
    | true =>
      have HF := Lib.hid (show betterP L R (i : Int) (j : Int) = true from hf)
      clear hf
      go_enter Try.func57, Try.ntmps57
      go_wp2_with (go_at_call 22; first | (with_reducible refine (J1.out).mono ?_; rintro e w1 ⟨rfl, rfl⟩) | (with_reducible refine (J2.out).mono ?_; rintro e w1 ⟨rfl, rfl⟩))
      go_ret
      exact ⟨by rw [HF.out]; rfl, Drawn.refl _⟩
    | false =>
      have hf' : betterP L R (i : Int) (j : Int) = decide (xl < yl) := hf
      clear hf
      cases hq : decide (xl < yl) with
      | _ =>
        have HF := Lib.hid (hf'.trans hq)
        clear hf'
        go_enter Try.func57, Try.ntmps57
        go_wp2_with (go_at_call 22; first | (with_reducible refine (J1.out).mono ?_; rintro e w1 ⟨rfl, rfl⟩) | (with_reducible refine (J2.out).mono ?_; rintro e w1 ⟨rfl, rfl⟩))
        go_region
        go_wp2_with fail
        go_ret
        exact ⟨by rw [HF.out]; rfl, _, rfl⟩
  | true =>
    cases Y with
    | false =>
      have HF := Lib.hid (show betterP L R (i : Int) (j : Int) = false from hf)
      clear hf
      go_enter Try.func57, Try.ntmps57
      go_wp2_with (go_at_call 22; first | (with_reducible refine (J1.out).mono ?_; rintro e w1 ⟨rfl, rfl⟩) | (with_reducible refine (J2.out).mono ?_; rintro e w1 ⟨rfl, rfl⟩))
      go_ret
      exact ⟨by rw [HF.out]; rfl, Drawn.refl _⟩
    | true =>
      have hf' : betterP L R (i : Int) (j : Int) = decide (xl < yl) := hf
      clear hf
      cases hq : decide (xl < yl) with
      | _ =>
        have HF := Lib.hid (hf'.trans hq)
        clear hf'
        go_enter Try.func57, Try.ntmps57
        go_wp2_with (go_at_call 22; first | (with_reducible refine (J1.out).mono ?_; rintro e w1 ⟨rfl, rfl⟩) | (with_reducible refine (J2.out).mono ?_; rintro e w1 ⟨rfl, rfl⟩))
        go_region
        go_wp2_with fail
        go_ret
        exact ⟨by rw [HF.out]; rfl, _, rfl⟩
theorem best_succ (L : List Pla) (R m a : List Int) (k : Nat) : bestP L R m a (k + 1) = if freeP L m a (k : Int) = true then stepP L R (bestP L R m a k) (k : Int) else bestP L R m a k := rfl
theorem best_skip {L : List Pla} {R m a : List Int} {k : Nat} (h : freeP L m a (k : Int) = false) : bestP L R m a (k + 1) = bestP L R m a k := by rw [best_succ, if_neg (by simp [h])]
theorem best_take {L : List Pla} {R m a : List Int} {k : Nat} (h : freeP L m a (k : Int) = true) (hb : bestP L R m a k < 0 ∨ betterP L R (k : Int) (bestP L R m a k) = true) : bestP L R m a (k + 1) = (k : Int) := by
  rw [best_succ, if_pos h]
  unfold stepP
  rcases hb with hb | hb
  · rw [decide_eq_true hb]; rfl
  · rw [hb, Bool.or_true]; rfl
theorem best_keep {L : List Pla} {R m a : List Int} {k : Nat} (h : freeP L m a (k : Int) = true) (h0 : ¬ bestP L R m a k < 0) (hb : betterP L R (k : Int) (bestP L R m a k) = false) : bestP L R m a (k + 1) = bestP L R m a k := by
  rw [best_succ, if_pos h]
  unfold stepP
  rw [decide_eq_false h0, hb]; rfl
theorem best_at {L : List Pla} {R m a : List Int} {k : Nat} (h0 : ¬ bestP L R m a k < 0) : ∃ j : Nat, j < k ∧ bestP L R m a k = (j : Int) := by
  rcases bestP_ok L R m a k with h | ⟨h, _⟩
  · rw [h.2] at h0; omega
  · have := candP_mem.1 h
    exact ⟨(bestP L R m a k).toNat, by omega, by omega⟩
theorem free_of {L : List Pla} {m a : List Int} {x : Int} : freeP L m a x = (roomP L x && (!decide (x ∈ m) && !decide (x ∈ a))) := rfl
set_option maxRecDepth 100000 in
set_option maxHeartbeats 4000000 in
theorem specPickSpareA (a : Option Addr) (cp : Nat) (L : List Pla) (b : Option Addr) (cb : Nat) (m : List Int) (c : Option Addr) (cc : Nat) (av : List Int) (w : World) (hl : L.length ≤ 2097152) (hm : m.length ≤ 4194304) (hv : av.length ≤ 4194304) (ha : AtQ w a L) (hb : At w b m) (hc : At w c av) :
    Calls Try.prog 25 #[.slice a L.length cp, .slice b m.length cb, .slice c av.length cc] w fun e w' => e = .returned (.int .i64 (spareP L m av)) ∧ Below w.heap.size w w' := by
  have HA := Lib.hid ha
  have HM := Lib.hid hb
  have HV := Lib.hid hc
  have J := Lib.hid (specRacksOfA a cp L b cb m w hl hm ha hb)
  clear ha hb hc
  go_enter Try.func25, Try.ntmps25
  go_wp2_with fail
  refine J.out.mono ?_
  rintro e w1 ⟨vR, rfl, hoR, hb1⟩
  obtain ⟨aR, cR, rfl, _, _, atR, _⟩ := hoR.form
  have hR := racksP_len L m
  have HR := Lib.hid atR
  replace HA := Lib.hid (HA.out.later hb1)
  replace HM := Lib.hid (HM.out.later hb1)
  replace HV := Lib.hid (HV.out.later hb1)
  have HB0 := Lib.hid hb1
  clear hoR atR hb1 J
  go_wp2_with fail
  go_loopw [7, 9] (fun v i wr => ∃ k : Nat, k ≤ 5 ∧ i = .int .i64 k ∧ v = .int .i64 (bestP L (racksP L m) m av k) ∧ Hid (0 < k → are m = true) ∧ Below w1.heap.size w1 wr) (fun _ i _ => 5 - (intOf i).toNat)
  case atStart => exact ⟨0, Nat.zero_le _, rfl, rfl, Lib.hid (fun h => absurd h (Nat.lt_irrefl _)), Below.refl _ _⟩
  case round =>
    obtain ⟨k, hk, rfl, rfl, HE, hb⟩ := hrel
    have HB := Lib.hid hb
    by_cases hlt : k < 5
    · have j2 := specAre_any b cb m wr hm (HM.out.later hb)
      cases h2 : are m with
      | false =>
        rw [h2] at j2
        have hk0 : k = 0 := by
          rcases Nat.eq_zero_or_pos k with h | h
          · exact h
          · rw [HE.out h] at h2; cases h2
        have HF := Lib.hid (show bestP L (racksP L m) m av k = spareP L m av by rw [hk0, spareP_no h2]; rfl)
        have J2 := Lib.hid j2
        clear j2 h2 hk0 hb
        go_wp2_with (go_at_call 17; with_reducible refine (J2.out).mono ?_; rintro e w2 ⟨rfl, hd2⟩)
        go_ret
        exact ⟨by rw [← HF.out]; rfl, HB0.out.trans ((HB.out.trans (hd2.below _)).mono HB0.out.size)⟩
      | true =>
        rw [h2] at j2
        have j3 := fun W (hw : Below wr.heap.size wr W) => specHasRoomA a cp L (k : Int) W hl ((HA.out.later hb).later hw)
        have j4 := fun W (hw : Below wr.heap.size wr W) => specHas_any b cb m (k : Int) W hm ((HM.out.later hb).later hw)
        have j5 := fun W (hw : Below wr.heap.size wr W) => specHas_any c cc av (k : Int) W hv ((HV.out.later hb).later hw)
        have hfr := free_of (L := L) (m := m) (a := av) (x := (k : Int))
        have hlenL : roomP L (k : Int) = true → k < L.length := fun h => by
          unfold roomP at h
          cases h1 : arePl L with
          | false => rw [h1] at h; cases h
          | true => rw [arePl_len h1]; exact hlt
        generalize roomP L (k : Int) = r at *
        cases r with
        | false =>
          have hfree : freeP L m av (k : Int) = false := hfr
          clear hfr hlenL
          have HF := Lib.hid (best_skip (R := racksP L m) hfree)
          have J2 := Lib.hid j2; have J3 := Lib.hid j3; have J4 := Lib.hid j4; have J5 := Lib.hid j5
          clear j2 j3 j4 j5 hfree h2 hb
          go_wp2_with (first
            | (go_at_call 17; with_reducible refine (J2.out).mono ?_; rintro e w2 ⟨rfl, hd2⟩)
            | (go_at_call 34; with_reducible refine (J3.out _ (hd2.below wr.heap.size)).mono ?_; rintro e w3 ⟨rfl, hb3⟩; have hw3 := (hd2.below wr.heap.size).trans (hb3.mono (hd2.below wr.heap.size).size))
            | (go_at_call 22; first | (with_reducible refine (J4.out _ hw3).mono ?_; rintro e w4 ⟨rfl, rfl⟩) | (with_reducible refine (J5.out _ hw3).mono ?_; rintro e w5 ⟨rfl, rfl⟩))
            | (go_at_call 57; with_reducible refine (J6.out _ hw3).mono ?_; rintro e w6 ⟨rfl, hd6⟩))
          go_roundw
          case rel => exact ⟨k + 1, by omega, by go_num, by rw [HF.out], Lib.hid (fun _ => trivial), HB.out.trans (hw3.mono HB.out.size)⟩
          case measure => simp [intOf]; omega
        | true =>
          replace hlenL := hlenL rfl
          generalize decide ((k : Int) ∈ m) = x at *
          cases x with
          | true =>
            have hfree : freeP L m av (k : Int) = false := hfr
            clear hfr hlenL
            have HF := Lib.hid (best_skip (R := racksP L m) hfree)
            have J2 := Lib.hid j2; have J3 := Lib.hid j3; have J4 := Lib.hid j4; have J5 := Lib.hid j5
            clear j2 j3 j4 j5 hfree h2 hb
            go_wp2_with (first
              | (go_at_call 17; with_reducible refine (J2.out).mono ?_; rintro e w2 ⟨rfl, hd2⟩)
              | (go_at_call 34; with_reducible refine (J3.out _ (hd2.below wr.heap.size)).mono ?_; rintro e w3 ⟨rfl, hb3⟩; have hw3 := (hd2.below wr.heap.size).trans (hb3.mono (hd2.below wr.heap.size).size))
              | (go_at_call 22; first | (with_reducible refine (J4.out _ hw3).mono ?_; rintro e w4 ⟨rfl, rfl⟩) | (with_reducible refine (J5.out _ hw3).mono ?_; rintro e w5 ⟨rfl, rfl⟩))
              | (go_at_call 57; with_reducible refine (J6.out _ hw3).mono ?_; rintro e w6 ⟨rfl, hd6⟩))
            go_roundw
            case rel => exact ⟨k + 1, by omega, by go_num, by rw [HF.out], Lib.hid (fun _ => trivial), HB.out.trans (hw3.mono HB.out.size)⟩
            case measure => simp [intOf]; omega
          | false =>
            generalize decide ((k : Int) ∈ av) = y at *
            cases y with
            | true =>
              have hfree : freeP L m av (k : Int) = false := hfr
              clear hfr hlenL
              have HF := Lib.hid (best_skip (R := racksP L m) hfree)
              have J2 := Lib.hid j2; have J3 := Lib.hid j3; have J4 := Lib.hid j4; have J5 := Lib.hid j5
              clear j2 j3 j4 j5 hfree h2 hb
              go_wp2_with (first
                | (go_at_call 17; with_reducible refine (J2.out).mono ?_; rintro e w2 ⟨rfl, hd2⟩)
                | (go_at_call 34; with_reducible refine (J3.out _ (hd2.below wr.heap.size)).mono ?_; rintro e w3 ⟨rfl, hb3⟩; have hw3 := (hd2.below wr.heap.size).trans (hb3.mono (hd2.below wr.heap.size).size))
                | (go_at_call 22; first | (with_reducible refine (J4.out _ hw3).mono ?_; rintro e w4 ⟨rfl, rfl⟩) | (with_reducible refine (J5.out _ hw3).mono ?_; rintro e w5 ⟨rfl, rfl⟩))
                | (go_at_call 57; with_reducible refine (J6.out _ hw3).mono ?_; rintro e w6 ⟨rfl, hd6⟩))
              go_roundw
              case rel => exact ⟨k + 1, by omega, by go_num, by rw [HF.out], Lib.hid (fun _ => trivial), HB.out.trans (hw3.mono HB.out.size)⟩
              case measure => simp [intOf]; omega
            | false =>
              have hfree : freeP L m av (k : Int) = true := hfr
              clear hfr
              by_cases h0 : bestP L (racksP L m) m av k < 0
              · have HF := Lib.hid (best_take (R := racksP L m) hfree (.inl h0))
                have t0 : decide (bestP L (racksP L m) m av k < 0) = true := decide_eq_true h0
                have J2 := Lib.hid j2; have J3 := Lib.hid j3; have J4 := Lib.hid j4; have J5 := Lib.hid j5
                clear j2 j3 j4 j5 hfree h2 hb h0 hlenL
                generalize bestP L (racksP L m) m av k = best at *
                go_wp2_with (first
                  | (go_at_call 17; with_reducible refine (J2.out).mono ?_; rintro e w2 ⟨rfl, hd2⟩)
                  | (go_at_call 34; with_reducible refine (J3.out _ (hd2.below wr.heap.size)).mono ?_; rintro e w3 ⟨rfl, hb3⟩; have hw3 := (hd2.below wr.heap.size).trans (hb3.mono (hd2.below wr.heap.size).size))
                  | (go_at_call 22; first | (with_reducible refine (J4.out _ hw3).mono ?_; rintro e w4 ⟨rfl, rfl⟩) | (with_reducible refine (J5.out _ hw3).mono ?_; rintro e w5 ⟨rfl, rfl⟩))
                  | (go_at_call 57; with_reducible refine (J6.out _ hw3).mono ?_; rintro e w6 ⟨rfl, hd6⟩))
                go_roundw
                case rel => exact ⟨k + 1, by omega, by go_num, by rw [HF.out], Lib.hid (fun _ => trivial), HB.out.trans (hw3.mono HB.out.size)⟩
                case measure => simp [intOf]; omega
              · obtain ⟨j, hj, hbj⟩ := best_at h0
                have j6 := fun W (hw : Below wr.heap.size wr W) => specBetterA a cp L aR cR (racksP L m) k j W hl (by omega) ((HA.out.later hb).later hw) ((HR.out.later hb).later hw) hlenL (by omega)
                have t0 : decide ((j : Int) < 0) = false := decide_eq_false (by omega)
                rw [← hbj] at j6
                cases hq : betterP L (racksP L m) (k : Int) (bestP L (racksP L m) m av k) with
                | true =>
                  have HF := Lib.hid (best_take (R := racksP L m) hfree (.inr hq))
                  rw [hq, hbj] at j6
                  rw [hbj]
                  have J2 := Lib.hid j2; have J3 := Lib.hid j3; have J4 := Lib.hid j4; have J5 := Lib.hid j5; have J6 := Lib.hid j6
                  clear j2 j3 j4 j5 j6 hfree h2 hb h0 hlenL hq hbj
                  go_wp2_with (first
                    | (go_at_call 17; with_reducible refine (J2.out).mono ?_; rintro e w2 ⟨rfl, hd2⟩)
                    | (go_at_call 34; with_reducible refine (J3.out _ (hd2.below wr.heap.size)).mono ?_; rintro e w3 ⟨rfl, hb3⟩; have hw3 := (hd2.below wr.heap.size).trans (hb3.mono (hd2.below wr.heap.size).size))
                    | (go_at_call 22; first | (with_reducible refine (J4.out _ hw3).mono ?_; rintro e w4 ⟨rfl, rfl⟩) | (with_reducible refine (J5.out _ hw3).mono ?_; rintro e w5 ⟨rfl, rfl⟩))
                    | (go_at_call 57; with_reducible refine (J6.out _ hw3).mono ?_; rintro e w6 ⟨rfl, hd6⟩))
                  go_roundw
                  case rel => exact ⟨k + 1, by omega, by go_num, by rw [HF.out], Lib.hid (fun _ => trivial), (HB.out.trans (hw3.mono HB.out.size)).trans (hd6.below _)⟩
                  case measure => simp [intOf]; omega
                | false =>
                  have HF := Lib.hid ((best_keep (R := racksP L m) hfree h0 hq).trans hbj)
                  rw [hq, hbj] at j6
                  rw [hbj]
                  have J2 := Lib.hid j2; have J3 := Lib.hid j3; have J4 := Lib.hid j4; have J5 := Lib.hid j5; have J6 := Lib.hid j6
                  clear j2 j3 j4 j5 j6 hfree h2 hb h0 hlenL hq hbj
                  go_wp2_with (first
                    | (go_at_call 17; with_reducible refine (J2.out).mono ?_; rintro e w2 ⟨rfl, hd2⟩)
                    | (go_at_call 34; with_reducible refine (J3.out _ (hd2.below wr.heap.size)).mono ?_; rintro e w3 ⟨rfl, hb3⟩; have hw3 := (hd2.below wr.heap.size).trans (hb3.mono (hd2.below wr.heap.size).size))
                    | (go_at_call 22; first | (with_reducible refine (J4.out _ hw3).mono ?_; rintro e w4 ⟨rfl, rfl⟩) | (with_reducible refine (J5.out _ hw3).mono ?_; rintro e w5 ⟨rfl, rfl⟩))
                    | (go_at_call 57; with_reducible refine (J6.out _ hw3).mono ?_; rintro e w6 ⟨rfl, hd6⟩))
                  go_roundw
                  case rel => exact ⟨k + 1, by omega, by go_num, by rw [HF.out], Lib.hid (fun _ => trivial), (HB.out.trans (hw3.mono HB.out.size)).trans (hd6.below _)⟩
                  case measure => simp [intOf]; omega
    · obtain rfl : k = 5 := by omega
      have HF := Lib.hid (show bestP L (racksP L m) m av 5 = spareP L m av by unfold spareP; rw [if_pos (HE.out (by omega))])
      clear hb
      go_wp2_with fail
      go_ret
      exact ⟨by rw [← HF.out]; rfl, HB0.out.trans (HB.out.mono HB0.out.size)⟩
theorem specPickSpare (b1 : Nat) (v1 : Value) (L : List Pla) (b2 : Nat) (v2 : Value) (m : List Int) (b3 : Nat) (v3 : Value) (av : List Int) (w : World) (h1 : L.length ≤ 2097152) (o1 : OwnQ b1 w v1 L) (h2 : m.length ≤ 4194304) (o2 : OwnI b2 w v2 m) (h3 : av.length ≤ 4194304) (o3 : OwnI b3 w v3 av) :
    Calls Try.prog 25 #[v1, v2, v3] w fun e w' => e = .returned (.int .i64 (spareP L m av)) ∧ Below w.heap.size w w' := by
  obtain ⟨a1, c1, rfl, _, _, at1, _⟩ := o1.form
  obtain ⟨a2, c2, rfl, _, _, at2, _⟩ := o2.form
  obtain ⟨a3, c3, rfl, _, _, at3, _⟩ := o3.form
  exact specPickSpareA a1 c1 L a2 c2 m a3 c3 av w h1 h2 h3 at1 at2 at3
end Go.Proofs.Ytpdpejlcilnafaa.kit
