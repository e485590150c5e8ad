/-
  The law of placement, walked: for every code. Written by tools/gen_FnPlacement.py.
-/
import Derived.Test.YtpdpejlcilnafaaBig
import Derived.Test.YtpdpejlcilnafaaS9Draw
import Derived.Test.YtpdpejlcilnafaaS9Law
import Derived.Test.YtpdpejlcilnafaaS9PlanI
import Derived.Test.YtpdpejlcilnafaaS9Plan
import Derived.Deep.DeepCutAuto
import Derived.Deep.RegionWith
namespace Go.Proofs.Ytpdpejlcilnafaa.fnPlacement
open Go.ChangeShapes Go.WideShapes Go.ChangeAt Go.RowKit
open Go.ChangeMaps (open_string shut_string)
open kit
set_option linter.unusedVariables false
set_option linter.unusedSimpArgs false

set_option maxRecDepth 100000 in
set_option maxHeartbeats 16000000 in
theorem walk (a0 : Option Addr) (len0 cap0 : Nat) (z0 : List Int) (w : World) (w0 : IsRow .u8 w a0 len0 cap0 z0) :
    Calls Try.prog 3 #[.slice a0 len0 cap0] w fun e w' => e = .returned (.bool true) ∧ Below w.heap.size w w' := by
  have hl : len0 ≤ 9223372036854775807 := by
    rcases w0 with ⟨_, h, _⟩ | ⟨_, _, h1, h2, _⟩
    · omega
    · unfold maxLen at h2; omega
  have hcode := Lib.hid (code_of_row w0)
  clear w0
  by_cases hbig : 1048576 < len0
  · have CB := Lib.hid (big_yes a0 len0 cap0 w hbig hl)
    clear hbig
    go_enter Try.func3, Try.ntmps3
    go_wp2_with fail
    refine (CB.out).mono ?_
    rintro e w1 ⟨rfl, rfl⟩
    go_wp2_with fail
    go_ret
    exact ⟨rfl, Below.refl _ _⟩
  have CB := Lib.hid (big_no a0 len0 cap0 w hbig)
  clear hbig
  go_enter Try.func3, Try.ntmps3
  go_wp2_with fail
  refine (CB.out).mono ?_
  rintro e w1 ⟨rfl, rfl⟩
  have HB := Lib.hid (Below.refl w.heap.size w)
  clear CB
  have J := Lib.hid (drawPlanMembers a0 len0 cap0 z0 w hcode.out)
  go_wp2_with fail
  refine (J.out).mono ?_
  rintro e w2 ⟨v1, v2, v3, L, m, al, z, rfl, hL, hm, hv, hP, ho2, ho3, hb⟩
  obtain ⟨aL, cL, rfl, hat, _⟩ := hP
  obtain ⟨y2, q2, rfl, _, _, at2, _⟩ := ho2.form
  obtain ⟨y3, q3, rfl, _, _, at3, _⟩ := ho3.form
  have HL := Lib.hid hat
  have HM := Lib.hid at2
  have HV := Lib.hid at3
  have HOM := Lib.hid ho2
  have HOV := Lib.hid ho3
  clear hat at2 at3 ho2 ho3
  replace HB := Lib.hid (HB.out.trans (hb.mono HB.out.size))
  clear hb J
  have J := Lib.hid (implPlanMembersA aL cL L _ _ m _ _ al z w2 (by omega) (by omega) (by omega) HL.out HOM.out HOV.out)
  go_wp2_with fail
  refine (J.out).mono ?_
  rintro e w3 ⟨u1, rfl, ho, hb⟩
  obtain ⟨x1, p1, rfl, _, _, atp, _⟩ := ho.form
  have HP := Lib.hid ho
  have HPA := Lib.hid atp
  clear ho atp
  replace HL := Lib.hid (HL.out.later hb)
  replace HM := Lib.hid (HM.out.later hb)
  replace HV := Lib.hid (HV.out.later hb)
  replace HOM := Lib.hid (HOM.out.later hb)
  replace HOV := Lib.hid (HOV.out.later hb)
  replace HB := Lib.hid (HB.out.trans (hb.mono HB.out.size))
  clear hb J
  have J := Lib.hid (specPlanMembersA aL cL L y2 q2 m y3 q3 al z w3 (by omega) (by omega) (by omega) HL.out HM.out HV.out)
  go_wp2_with fail
  refine (J.out).mono ?_
  rintro e w4 ⟨u2, rfl, ho, hb⟩
  obtain ⟨x2, p2, rfl⟩ := ho.shape
  have HP2 := Lib.hid ho
  clear ho
  replace HL := Lib.hid (HL.out.later hb)
  replace HM := Lib.hid (HM.out.later hb)
  replace HV := Lib.hid (HV.out.later hb)
  replace HOM := Lib.hid (HOM.out.later hb)
  replace HOV := Lib.hid (HOV.out.later hb)
  replace HP := Lib.hid (HP.out.later hb)
  replace HPA := Lib.hid (HPA.out.later hb)
  replace HB := Lib.hid (HB.out.trans (hb.mono HB.out.size))
  clear hb J
  have hpl := planP_len L m al z
  have J0 := sameInts _ _ (planP L m al z) _ _ (planP L m al z) w4 (by omega) HP.out (by omega) HP2.out
  rw [decide_eq_true rfl] at J0
  have J := Lib.hid J0
  clear J0
  go_wp2_with fail
  refine (J.out).mono ?_
  rintro e w5 ⟨rfl, hb⟩
  replace HL := Lib.hid (HL.out.later hb)
  replace HM := Lib.hid (HM.out.later hb)
  replace HV := Lib.hid (HV.out.later hb)
  replace HOM := Lib.hid (HOM.out.later hb)
  replace HOV := Lib.hid (HOV.out.later hb)
  replace HP := Lib.hid (HP.out.later hb)
  replace HPA := Lib.hid (HPA.out.later hb)
  replace HB := Lib.hid (HB.out.trans (hb.mono HB.out.size))
  clear hb J
  clear HP2
  have HKEEP := Lib.hid (fun h => plan_keep (L := L) (m := m) (al := al) (want := z) h)
  have HMAX := Lib.hid (fun h => plan_max (L := L) (m := m) (al := al) (want := z) h)
  have HADD := Lib.hid (fun h x hx => plan_added (L := L) (m := m) (al := al) (want := z) h (x := x) hx)
  have hf : planOk L m al z = (arePl L && (are m && (are al && decide (0 ≤ z ∧ z ≤ 5)))) := rfl
  have hck := common_lenB m al 6 (by omega)
  have hwk := without_lenB (planP L m al z) (common m al) 10 hpl
  have j1 := specArePlacesA aL cL L w5 (by omega) HL.out
  have j2 := specAre_any y2 q2 m w5 (by omega) HM.out
  have j3 := fun W (hd : Drawn w5 W) => specAre_any y3 q3 al W (by omega) (HV.out.later (hd.below _))
  generalize planOk L m al z = ok at *
  generalize planP L m al z = p at *
  generalize arePl L = b1 at *
  generalize are m = b2 at *
  generalize are al = b3 at *
  cases b1 with
  | false =>
    have J1 := Lib.hid j1
    have J2 := Lib.hid j2
    have J3 := Lib.hid j3
    clear j1 j2 j3 hf
    go_wp2_with (first | (go_at_call 16; with_reducible refine (J1.out).mono ?_; rintro e w6 ⟨rfl, rfl⟩) | (go_at_call 17; first | (with_reducible refine (J2.out).mono ?_; rintro e w7 ⟨rfl, hd7⟩) | (with_reducible refine (J3.out _ hd7).mono ?_; rintro e w8 ⟨rfl, hd8⟩)))
    obtain ⟨wM, rfl⟩ : ∃ W, W = w5 := ⟨_, rfl⟩
    clear HL HM HV HOM HOV HP HPA HKEEP HMAX HADD
    have J := Lib.hid (drawPickSpare a0 len0 cap0 z0 wM (hcode.out.below HB.out))
    go_wp2_with fail
    refine (J.out).mono ?_
    rintro e wN ⟨v1, v2, v3, L, m, av, rfl, hL, hm, hv, hP, ho2, ho3, hb⟩
    obtain ⟨aL, cL, rfl, hat, _⟩ := hP
    obtain ⟨y2, q2, rfl, _, _, at2, _⟩ := ho2.form
    obtain ⟨y3, q3, rfl, _, _, at3, _⟩ := ho3.form
    have HL := Lib.hid hat
    have HM := Lib.hid at2
    have HV := Lib.hid at3
    have HOM := Lib.hid ho2
    have HOV := Lib.hid ho3
    clear hat at2 at3 ho2 ho3
    replace HB := Lib.hid (HB.out.trans (hb.mono HB.out.size))
    clear hb J
    have J := Lib.hid (implPickSpareA aL cL L _ _ m _ _ av wN (by omega) (by omega) (by omega) HL.out HOM.out HOV.out)
    go_wp2_with fail
    refine (J.out).mono ?_
    rintro e wO ⟨rfl, hb⟩
    replace HL := Lib.hid (HL.out.later hb)
    replace HM := Lib.hid (HM.out.later hb)
    replace HV := Lib.hid (HV.out.later hb)
    replace HOM := Lib.hid (HOM.out.later hb)
    replace HOV := Lib.hid (HOV.out.later hb)
    replace HB := Lib.hid (HB.out.trans (hb.mono HB.out.size))
    clear hb J
    have J0 := specPickSpareA aL cL L y2 q2 m y3 q3 av wO (by omega) (by omega) (by omega) HL.out HM.out HV.out
    have HS := Lib.hid (fun h => spare_law (L := L) (m := m) (a := av) h)
    generalize spareP L m av = s at *
    have ts : (s != s) = false := by simp
    have J := Lib.hid J0
    clear J0
    go_wp2_with fail
    refine (J.out).mono ?_
    rintro e wP ⟨rfl, hb⟩
    replace HL := Lib.hid (HL.out.later hb)
    replace HM := Lib.hid (HM.out.later hb)
    replace HV := Lib.hid (HV.out.later hb)
    replace HOM := Lib.hid (HOM.out.later hb)
    replace HOV := Lib.hid (HOV.out.later hb)
    replace HB := Lib.hid (HB.out.trans (hb.mono HB.out.size))
    clear hb J
    have hrl := racksP_len L m
    have J := Lib.hid (implRacksOfA aL cL L y2 q2 m wP (by omega) (by omega) HL.out HM.out)
    go_wp2_with fail
    refine (J.out).mono ?_
    rintro e wQ ⟨u1, rfl, ho, hb⟩
    obtain ⟨x1, p1, rfl⟩ := ho.shape
    have HR1 := Lib.hid ho
    clear ho
    replace HL := Lib.hid (HL.out.later hb)
    replace HM := Lib.hid (HM.out.later hb)
    replace HV := Lib.hid (HV.out.later hb)
    replace HOM := Lib.hid (HOM.out.later hb)
    replace HOV := Lib.hid (HOV.out.later hb)
    replace HB := Lib.hid (HB.out.trans (hb.mono HB.out.size))
    clear hb J
    have J := Lib.hid (specRacksOfA aL cL L y2 q2 m wQ (by omega) (by omega) HL.out HM.out)
    go_wp2_with fail
    refine (J.out).mono ?_
    rintro e wR ⟨u2, rfl, ho, hb⟩
    obtain ⟨x2, p2, rfl⟩ := ho.shape
    have HR2 := Lib.hid ho
    clear ho
    replace HL := Lib.hid (HL.out.later hb)
    replace HM := Lib.hid (HM.out.later hb)
    replace HV := Lib.hid (HV.out.later hb)
    replace HOM := Lib.hid (HOM.out.later hb)
    replace HOV := Lib.hid (HOV.out.later hb)
    replace HR1 := Lib.hid (HR1.out.later hb)
    replace HB := Lib.hid (HB.out.trans (hb.mono HB.out.size))
    clear hb J
    have J0 := sameInts _ _ (racksP L m) _ _ (racksP L m) wR (by omega) HR1.out (by omega) HR2.out
    rw [decide_eq_true rfl] at J0
    have J := Lib.hid J0
    clear J0
    go_wp2_with fail
    refine (J.out).mono ?_
    rintro e wS ⟨rfl, hb⟩
    replace HL := Lib.hid (HL.out.later hb)
    replace HM := Lib.hid (HM.out.later hb)
    replace HV := Lib.hid (HV.out.later hb)
    replace HOM := Lib.hid (HOM.out.later hb)
    replace HOV := Lib.hid (HOV.out.later hb)
    replace HB := Lib.hid (HB.out.trans (hb.mono HB.out.size))
    clear hb J
    clear HR1 HR2
    have J := Lib.hid (implIsSpreadA aL cL L y2 q2 m wS (by omega) (by omega) HL.out HM.out)
    go_wp2_with fail
    refine (J.out).mono ?_
    rintro e wT ⟨rfl, hb⟩
    replace HL := Lib.hid (HL.out.later hb)
    replace HM := Lib.hid (HM.out.later hb)
    replace HV := Lib.hid (HV.out.later hb)
    replace HOM := Lib.hid (HOM.out.later hb)
    replace HOV := Lib.hid (HOV.out.later hb)
    replace HB := Lib.hid (HB.out.trans (hb.mono HB.out.size))
    clear hb J
    have J0 := specIsSpreadA aL cL L y2 q2 m wT (by omega) (by omega) HL.out HM.out
    generalize spreadP L m = sp at *
    have tp : (sp != sp) = false := by simp
    have J := Lib.hid J0
    clear J0
    go_wp2_with fail
    refine (J.out).mono ?_
    rintro e wU ⟨rfl, hb⟩
    replace HL := Lib.hid (HL.out.later hb)
    replace HM := Lib.hid (HM.out.later hb)
    replace HV := Lib.hid (HV.out.later hb)
    replace HOM := Lib.hid (HOM.out.later hb)
    replace HOV := Lib.hid (HOV.out.later hb)
    replace HB := Lib.hid (HB.out.trans (hb.mono HB.out.size))
    clear hb J
    clear tp ts
    by_cases h0 : s < 0
    · have t0 : decide (s < 0) = true := decide_eq_true h0
      clear h0
      go_wp2_with fail
      go_ret
      exact ⟨rfl, HB.out⟩
    have HS2 := Lib.hid (HS.out (by omega))
    have t0 : decide (s < 0) = false := decide_eq_false h0
    clear h0 HS
    have J1 := implHasRoomA aL cL L s wU (by omega) HL.out
    rw [HS2.out.1] at J1
    have J2 := fun W (hw : Below wU.heap.size wU W) => specHas_any y2 q2 m s W (by omega) (HM.out.later hw)
    rw [HS2.out.2.1] at J2
    have J3 := fun W (hw : Below wU.heap.size wU W) => specHas_any y3 q3 av s W (by omega) (HV.out.later hw)
    rw [HS2.out.2.2] at J3
    have J1 := Lib.hid J1
    have J2 := Lib.hid J2
    have J3 := Lib.hid J3
    go_wp2_with (first | (go_at_call 21; with_reducible refine (J1.out).mono ?_; rintro e wV ⟨rfl, hb⟩) | (go_at_call 22; first | (with_reducible refine (J2.out _ hb).mono ?_; rintro e wW ⟨rfl, rfl⟩) | (with_reducible refine (J3.out _ hb).mono ?_; rintro e wX ⟨rfl, rfl⟩)))
    go_ret
    exact ⟨rfl, HB.out.trans (hb.mono HB.out.size)⟩
  | true =>
    cases b2 with
    | false =>
      have J1 := Lib.hid j1
      have J2 := Lib.hid j2
      have J3 := Lib.hid j3
      clear j1 j2 j3 hf
      go_wp2_with (first | (go_at_call 16; with_reducible refine (J1.out).mono ?_; rintro e w6 ⟨rfl, rfl⟩) | (go_at_call 17; first | (with_reducible refine (J2.out).mono ?_; rintro e w7 ⟨rfl, hd7⟩) | (with_reducible refine (J3.out _ hd7).mono ?_; rintro e w8 ⟨rfl, hd8⟩)))
      obtain ⟨wM, rfl⟩ : ∃ W, W = w7 := ⟨_, rfl⟩
      have hb := hd7.below w5.heap.size
      replace HB := Lib.hid (HB.out.trans (hb.mono HB.out.size))
      clear HL HM HV HOM HOV HP HPA HKEEP HMAX HADD
      have J := Lib.hid (drawPickSpare a0 len0 cap0 z0 wM (hcode.out.below HB.out))
      go_wp2_with fail
      refine (J.out).mono ?_
      rintro e wN ⟨v1, v2, v3, L, m, av, rfl, hL, hm, hv, hP, ho2, ho3, hb⟩
      obtain ⟨aL, cL, rfl, hat, _⟩ := hP
      obtain ⟨y2, q2, rfl, _, _, at2, _⟩ := ho2.form
      obtain ⟨y3, q3, rfl, _, _, at3, _⟩ := ho3.form
      have HL := Lib.hid hat
      have HM := Lib.hid at2
      have HV := Lib.hid at3
      have HOM := Lib.hid ho2
      have HOV := Lib.hid ho3
      clear hat at2 at3 ho2 ho3
      replace HB := Lib.hid (HB.out.trans (hb.mono HB.out.size))
      clear hb J
      have J := Lib.hid (implPickSpareA aL cL L _ _ m _ _ av wN (by omega) (by omega) (by omega) HL.out HOM.out HOV.out)
      go_wp2_with fail
      refine (J.out).mono ?_
      rintro e wO ⟨rfl, hb⟩
      replace HL := Lib.hid (HL.out.later hb)
      replace HM := Lib.hid (HM.out.later hb)
      replace HV := Lib.hid (HV.out.later hb)
      replace HOM := Lib.hid (HOM.out.later hb)
      replace HOV := Lib.hid (HOV.out.later hb)
      replace HB := Lib.hid (HB.out.trans (hb.mono HB.out.size))
      clear hb J
      have J0 := specPickSpareA aL cL L y2 q2 m y3 q3 av wO (by omega) (by omega) (by omega) HL.out HM.out HV.out
      have HS := Lib.hid (fun h => spare_law (L := L) (m := m) (a := av) h)
      generalize spareP L m av = s at *
      have ts : (s != s) = false := by simp
      have J := Lib.hid J0
      clear J0
      go_wp2_with fail
      refine (J.out).mono ?_
      rintro e wP ⟨rfl, hb⟩
      replace HL := Lib.hid (HL.out.later hb)
      replace HM := Lib.hid (HM.out.later hb)
      replace HV := Lib.hid (HV.out.later hb)
      replace HOM := Lib.hid (HOM.out.later hb)
      replace HOV := Lib.hid (HOV.out.later hb)
      replace HB := Lib.hid (HB.out.trans (hb.mono HB.out.size))
      clear hb J
      have hrl := racksP_len L m
      have J := Lib.hid (implRacksOfA aL cL L y2 q2 m wP (by omega) (by omega) HL.out HM.out)
      go_wp2_with fail
      refine (J.out).mono ?_
      rintro e wQ ⟨u1, rfl, ho, hb⟩
      obtain ⟨x1, p1, rfl⟩ := ho.shape
      have HR1 := Lib.hid ho
      clear ho
      replace HL := Lib.hid (HL.out.later hb)
      replace HM := Lib.hid (HM.out.later hb)
      replace HV := Lib.hid (HV.out.later hb)
      replace HOM := Lib.hid (HOM.out.later hb)
      replace HOV := Lib.hid (HOV.out.later hb)
      replace HB := Lib.hid (HB.out.trans (hb.mono HB.out.size))
      clear hb J
      have J := Lib.hid (specRacksOfA aL cL L y2 q2 m wQ (by omega) (by omega) HL.out HM.out)
      go_wp2_with fail
      refine (J.out).mono ?_
      rintro e wR ⟨u2, rfl, ho, hb⟩
      obtain ⟨x2, p2, rfl⟩ := ho.shape
      have HR2 := Lib.hid ho
      clear ho
      replace HL := Lib.hid (HL.out.later hb)
      replace HM := Lib.hid (HM.out.later hb)
      replace HV := Lib.hid (HV.out.later hb)
      replace HOM := Lib.hid (HOM.out.later hb)
      replace HOV := Lib.hid (HOV.out.later hb)
      replace HR1 := Lib.hid (HR1.out.later hb)
      replace HB := Lib.hid (HB.out.trans (hb.mono HB.out.size))
      clear hb J
      have J0 := sameInts _ _ (racksP L m) _ _ (racksP L m) wR (by omega) HR1.out (by omega) HR2.out
      rw [decide_eq_true rfl] at J0
      have J := Lib.hid J0
      clear J0
      go_wp2_with fail
      refine (J.out).mono ?_
      rintro e wS ⟨rfl, hb⟩
      replace HL := Lib.hid (HL.out.later hb)
      replace HM := Lib.hid (HM.out.later hb)
      replace HV := Lib.hid (HV.out.later hb)
      replace HOM := Lib.hid (HOM.out.later hb)
      replace HOV := Lib.hid (HOV.out.later hb)
      replace HB := Lib.hid (HB.out.trans (hb.mono HB.out.size))
      clear hb J
      clear HR1 HR2
      have J := Lib.hid (implIsSpreadA aL cL L y2 q2 m wS (by omega) (by omega) HL.out HM.out)
      go_wp2_with fail
      refine (J.out).mono ?_
      rintro e wT ⟨rfl, hb⟩
      replace HL := Lib.hid (HL.out.later hb)
      replace HM := Lib.hid (HM.out.later hb)
      replace HV := Lib.hid (HV.out.later hb)
      replace HOM := Lib.hid (HOM.out.later hb)
      replace HOV := Lib.hid (HOV.out.later hb)
      replace HB := Lib.hid (HB.out.trans (hb.mono HB.out.size))
      clear hb J
      have J0 := specIsSpreadA aL cL L y2 q2 m wT (by omega) (by omega) HL.out HM.out
      generalize spreadP L m = sp at *
      have tp : (sp != sp) = false := by simp
      have J := Lib.hid J0
      clear J0
      go_wp2_with fail
      refine (J.out).mono ?_
      rintro e wU ⟨rfl, hb⟩
      replace HL := Lib.hid (HL.out.later hb)
      replace HM := Lib.hid (HM.out.later hb)
      replace HV := Lib.hid (HV.out.later hb)
      replace HOM := Lib.hid (HOM.out.later hb)
      replace HOV := Lib.hid (HOV.out.later hb)
      replace HB := Lib.hid (HB.out.trans (hb.mono HB.out.size))
      clear hb J
      clear tp ts
      by_cases h0 : s < 0
      · have t0 : decide (s < 0) = true := decide_eq_true h0
        clear h0
        go_wp2_with fail
        go_ret
        exact ⟨rfl, HB.out⟩
      have HS2 := Lib.hid (HS.out (by omega))
      have t0 : decide (s < 0) = false := decide_eq_false h0
      clear h0 HS
      have J1 := implHasRoomA aL cL L s wU (by omega) HL.out
      rw [HS2.out.1] at J1
      have J2 := fun W (hw : Below wU.heap.size wU W) => specHas_any y2 q2 m s W (by omega) (HM.out.later hw)
      rw [HS2.out.2.1] at J2
      have J3 := fun W (hw : Below wU.heap.size wU W) => specHas_any y3 q3 av s W (by omega) (HV.out.later hw)
      rw [HS2.out.2.2] at J3
      have J1 := Lib.hid J1
      have J2 := Lib.hid J2
      have J3 := Lib.hid J3
      go_wp2_with (first | (go_at_call 21; with_reducible refine (J1.out).mono ?_; rintro e wV ⟨rfl, hb⟩) | (go_at_call 22; first | (with_reducible refine (J2.out _ hb).mono ?_; rintro e wW ⟨rfl, rfl⟩) | (with_reducible refine (J3.out _ hb).mono ?_; rintro e wX ⟨rfl, rfl⟩)))
      go_ret
      exact ⟨rfl, HB.out.trans (hb.mono HB.out.size)⟩
    | true =>
      cases b3 with
      | false =>
        have J1 := Lib.hid j1
        have J2 := Lib.hid j2
        have J3 := Lib.hid j3
        clear j1 j2 j3 hf
        go_wp2_with (first | (go_at_call 16; with_reducible refine (J1.out).mono ?_; rintro e w6 ⟨rfl, rfl⟩) | (go_at_call 17; first | (with_reducible refine (J2.out).mono ?_; rintro e w7 ⟨rfl, hd7⟩) | (with_reducible refine (J3.out _ hd7).mono ?_; rintro e w8 ⟨rfl, hd8⟩)))
        obtain ⟨wM, rfl⟩ : ∃ W, W = w8 := ⟨_, rfl⟩
        have hb := (hd7.trans hd8).below w5.heap.size
        replace HB := Lib.hid (HB.out.trans (hb.mono HB.out.size))
        clear HL HM HV HOM HOV HP HPA HKEEP HMAX HADD
        have J := Lib.hid (drawPickSpare a0 len0 cap0 z0 wM (hcode.out.below HB.out))
        go_wp2_with fail
        refine (J.out).mono ?_
        rintro e wN ⟨v1, v2, v3, L, m, av, rfl, hL, hm, hv, hP, ho2, ho3, hb⟩
        obtain ⟨aL, cL, rfl, hat, _⟩ := hP
        obtain ⟨y2, q2, rfl, _, _, at2, _⟩ := ho2.form
        obtain ⟨y3, q3, rfl, _, _, at3, _⟩ := ho3.form
        have HL := Lib.hid hat
        have HM := Lib.hid at2
        have HV := Lib.hid at3
        have HOM := Lib.hid ho2
        have HOV := Lib.hid ho3
        clear hat at2 at3 ho2 ho3
        replace HB := Lib.hid (HB.out.trans (hb.mono HB.out.size))
        clear hb J
        have J := Lib.hid (implPickSpareA aL cL L _ _ m _ _ av wN (by omega) (by omega) (by omega) HL.out HOM.out HOV.out)
        go_wp2_with fail
        refine (J.out).mono ?_
        rintro e wO ⟨rfl, hb⟩
        replace HL := Lib.hid (HL.out.later hb)
        replace HM := Lib.hid (HM.out.later hb)
        replace HV := Lib.hid (HV.out.later hb)
        replace HOM := Lib.hid (HOM.out.later hb)
        replace HOV := Lib.hid (HOV.out.later hb)
        replace HB := Lib.hid (HB.out.trans (hb.mono HB.out.size))
        clear hb J
        have J0 := specPickSpareA aL cL L y2 q2 m y3 q3 av wO (by omega) (by omega) (by omega) HL.out HM.out HV.out
        have HS := Lib.hid (fun h => spare_law (L := L) (m := m) (a := av) h)
        generalize spareP L m av = s at *
        have ts : (s != s) = false := by simp
        have J := Lib.hid J0
        clear J0
        go_wp2_with fail
        refine (J.out).mono ?_
        rintro e wP ⟨rfl, hb⟩
        replace HL := Lib.hid (HL.out.later hb)
        replace HM := Lib.hid (HM.out.later hb)
        replace HV := Lib.hid (HV.out.later hb)
        replace HOM := Lib.hid (HOM.out.later hb)
        replace HOV := Lib.hid (HOV.out.later hb)
        replace HB := Lib.hid (HB.out.trans (hb.mono HB.out.size))
        clear hb J
        have hrl := racksP_len L m
        have J := Lib.hid (implRacksOfA aL cL L y2 q2 m wP (by omega) (by omega) HL.out HM.out)
        go_wp2_with fail
        refine (J.out).mono ?_
        rintro e wQ ⟨u1, rfl, ho, hb⟩
        obtain ⟨x1, p1, rfl⟩ := ho.shape
        have HR1 := Lib.hid ho
        clear ho
        replace HL := Lib.hid (HL.out.later hb)
        replace HM := Lib.hid (HM.out.later hb)
        replace HV := Lib.hid (HV.out.later hb)
        replace HOM := Lib.hid (HOM.out.later hb)
        replace HOV := Lib.hid (HOV.out.later hb)
        replace HB := Lib.hid (HB.out.trans (hb.mono HB.out.size))
        clear hb J
        have J := Lib.hid (specRacksOfA aL cL L y2 q2 m wQ (by omega) (by omega) HL.out HM.out)
        go_wp2_with fail
        refine (J.out).mono ?_
        rintro e wR ⟨u2, rfl, ho, hb⟩
        obtain ⟨x2, p2, rfl⟩ := ho.shape
        have HR2 := Lib.hid ho
        clear ho
        replace HL := Lib.hid (HL.out.later hb)
        replace HM := Lib.hid (HM.out.later hb)
        replace HV := Lib.hid (HV.out.later hb)
        replace HOM := Lib.hid (HOM.out.later hb)
        replace HOV := Lib.hid (HOV.out.later hb)
        replace HR1 := Lib.hid (HR1.out.later hb)
        replace HB := Lib.hid (HB.out.trans (hb.mono HB.out.size))
        clear hb J
        have J0 := sameInts _ _ (racksP L m) _ _ (racksP L m) wR (by omega) HR1.out (by omega) HR2.out
        rw [decide_eq_true rfl] at J0
        have J := Lib.hid J0
        clear J0
        go_wp2_with fail
        refine (J.out).mono ?_
        rintro e wS ⟨rfl, hb⟩
        replace HL := Lib.hid (HL.out.later hb)
        replace HM := Lib.hid (HM.out.later hb)
        replace HV := Lib.hid (HV.out.later hb)
        replace HOM := Lib.hid (HOM.out.later hb)
        replace HOV := Lib.hid (HOV.out.later hb)
        replace HB := Lib.hid (HB.out.trans (hb.mono HB.out.size))
        clear hb J
        clear HR1 HR2
        have J := Lib.hid (implIsSpreadA aL cL L y2 q2 m wS (by omega) (by omega) HL.out HM.out)
        go_wp2_with fail
        refine (J.out).mono ?_
        rintro e wT ⟨rfl, hb⟩
        replace HL := Lib.hid (HL.out.later hb)
        replace HM := Lib.hid (HM.out.later hb)
        replace HV := Lib.hid (HV.out.later hb)
        replace HOM := Lib.hid (HOM.out.later hb)
        replace HOV := Lib.hid (HOV.out.later hb)
        replace HB := Lib.hid (HB.out.trans (hb.mono HB.out.size))
        clear hb J
        have J0 := specIsSpreadA aL cL L y2 q2 m wT (by omega) (by omega) HL.out HM.out
        generalize spreadP L m = sp at *
        have tp : (sp != sp) = false := by simp
        have J := Lib.hid J0
        clear J0
        go_wp2_with fail
        refine (J.out).mono ?_
        rintro e wU ⟨rfl, hb⟩
        replace HL := Lib.hid (HL.out.later hb)
        replace HM := Lib.hid (HM.out.later hb)
        replace HV := Lib.hid (HV.out.later hb)
        replace HOM := Lib.hid (HOM.out.later hb)
        replace HOV := Lib.hid (HOV.out.later hb)
        replace HB := Lib.hid (HB.out.trans (hb.mono HB.out.size))
        clear hb J
        clear tp ts
        by_cases h0 : s < 0
        · have t0 : decide (s < 0) = true := decide_eq_true h0
          clear h0
          go_wp2_with fail
          go_ret
          exact ⟨rfl, HB.out⟩
        have HS2 := Lib.hid (HS.out (by omega))
        have t0 : decide (s < 0) = false := decide_eq_false h0
        clear h0 HS
        have J1 := implHasRoomA aL cL L s wU (by omega) HL.out
        rw [HS2.out.1] at J1
        have J2 := fun W (hw : Below wU.heap.size wU W) => specHas_any y2 q2 m s W (by omega) (HM.out.later hw)
        rw [HS2.out.2.1] at J2
        have J3 := fun W (hw : Below wU.heap.size wU W) => specHas_any y3 q3 av s W (by omega) (HV.out.later hw)
        rw [HS2.out.2.2] at J3
        have J1 := Lib.hid J1
        have J2 := Lib.hid J2
        have J3 := Lib.hid J3
        go_wp2_with (first | (go_at_call 21; with_reducible refine (J1.out).mono ?_; rintro e wV ⟨rfl, hb⟩) | (go_at_call 22; first | (with_reducible refine (J2.out _ hb).mono ?_; rintro e wW ⟨rfl, rfl⟩) | (with_reducible refine (J3.out _ hb).mono ?_; rintro e wX ⟨rfl, rfl⟩)))
        go_ret
        exact ⟨rfl, HB.out.trans (hb.mono HB.out.size)⟩
      | true =>
        by_cases hz0 : 0 ≤ z
        · by_cases hz5 : z ≤ 5
          · rw [decide_eq_true ⟨hz0, hz5⟩] at hf
            have hok : ok = true := hf
            have HKEEP2 := Lib.hid (HKEEP.out hok)
            have HMAX2 := Lib.hid (HMAX.out hok)
            have HADD2 := Lib.hid (HADD.out hok)
            clear hok
            have tz0 : decide (z ≥ 0) = true := decide_eq_true hz0
            have tz5 : decide (z ≤ 5) = true := decide_eq_true hz5
            have J1 := Lib.hid j1
            have J2 := Lib.hid j2
            have J3 := Lib.hid j3
            clear j1 j2 j3 hf
            go_wp2_with (first | (go_at_call 16; with_reducible refine (J1.out).mono ?_; rintro e w6 ⟨rfl, rfl⟩) | (go_at_call 17; first | (with_reducible refine (J2.out).mono ?_; rintro e w7 ⟨rfl, hd7⟩) | (with_reducible refine (J3.out _ hd7).mono ?_; rintro e w8 ⟨rfl, hd8⟩)))
            have hb := (hd7.trans hd8).below w5.heap.size
            replace HL := Lib.hid (HL.out.later hb)
            replace HM := Lib.hid (HM.out.later hb)
            replace HV := Lib.hid (HV.out.later hb)
            replace HOM := Lib.hid (HOM.out.later hb)
            replace HOV := Lib.hid (HOV.out.later hb)
            replace HP := Lib.hid (HP.out.later hb)
            replace HPA := Lib.hid (HPA.out.later hb)
            replace HB := Lib.hid (HB.out.trans (hb.mono HB.out.size))
            clear hb hd7 hd8 HKEEP HMAX HADD J1 J2 J3 HOM
            have J := Lib.hid (specCommon_any y2 y3 q2 q3 m al w8 (by omega) (by omega) HM.out HV.out)
            go_wp2_with fail
            refine (J.out).mono ?_
            rintro e w9 ⟨u3, rfl, ho, hb⟩
            change OwnI w8.heap.size w9 u3 (common m al) at ho
            obtain ⟨x3, p3, rfl, _, _, atk, _⟩ := ho.form
            have HK := Lib.hid ho
            have HKA := Lib.hid atk
            clear ho atk HM
            replace HL := Lib.hid (HL.out.later hb)
            replace HV := Lib.hid (HV.out.later hb)
            replace HP := Lib.hid (HP.out.later hb)
            replace HPA := Lib.hid (HPA.out.later hb)
            replace HB := Lib.hid (HB.out.trans (hb.mono HB.out.size))
            clear hb J
            generalize common m al = K at *
            have J := Lib.hid (specWithout_any x1 x3 p1 p3 p K w9 (by omega) (by omega) HPA.out HKA.out)
            go_wp2_with fail
            refine (J.out).mono ?_
            rintro e w10 ⟨u4, rfl, ho, hb⟩
            change OwnI w9.heap.size w10 u4 (without p K) at ho
            obtain ⟨x4, p4, rfl, _, _, ata, _⟩ := ho.form
            have HAA := Lib.hid ata
            clear ho ata
            replace HL := Lib.hid (HL.out.later hb)
            replace HV := Lib.hid (HV.out.later hb)
            replace HP := Lib.hid (HP.out.later hb)
            replace HPA := Lib.hid (HPA.out.later hb)
            replace HK := Lib.hid (HK.out.later hb)
            replace HKA := Lib.hid (HKA.out.later hb)
            replace HB := Lib.hid (HB.out.trans (hb.mono HB.out.size))
            clear hb J
            have J0 := specCommon_any x1 x3 p1 p3 p K w10 (by omega) (by omega) HPA.out HKA.out
            have hcc : puts [] (p.filter fun x => decide (x ∈ K)) = K := HKEEP2.out
            rw [hcc] at J0
            clear hcc
            have J := Lib.hid J0
            clear J0
            have tk : (K.length != K.length) = false := by simp
            have tk' : ((K.length : Int) != (K.length : Int)) = false := by simp
            generalize hA : without p K = A at *
            have ta : (A.length != A.length) = false := by simp
            have ta' : ((A.length : Int) != (A.length : Int)) = false := by simp
            go_wp2_with fail
            refine (J.out).mono ?_
            rintro e w11 ⟨u5, rfl, ho, hb⟩
            obtain ⟨x5, p5, rfl⟩ := ho.shape
            clear ho
            replace HL := Lib.hid (HL.out.later hb)
            replace HV := Lib.hid (HV.out.later hb)
            replace HP := Lib.hid (HP.out.later hb)
            replace HPA := Lib.hid (HPA.out.later hb)
            replace HK := Lib.hid (HK.out.later hb)
            replace HKA := Lib.hid (HKA.out.later hb)
            replace HAA := Lib.hid (HAA.out.later hb)
            replace HB := Lib.hid (HB.out.trans (hb.mono HB.out.size))
            clear hb J
            have J0 := implCountMoves _ _ K _ _ p w11 (by omega) HK.out (by omega) HP.out
            rw [hA] at J0
            have J := Lib.hid J0
            clear J0
            have tm : ∀ mx : Int, (mx = z ∨ mx = (K.length : Int)) → z ≤ mx → (K.length : Int) ≤ mx → decide ((p.length : Int) > mx) = false := fun mx _ h1 h2 => decide_eq_false (by rcases HMAX2.out with h | h <;> omega)
            rcases Int.le_total z (K.length : Int) with hle | hle
            · have hmx : max z (K.length : Int) = (K.length : Int) := by omega
              have tg := tm (K.length : Int) (.inr rfl) hle (Int.le_refl _)
              have HMX := Lib.hid hmx
              have tg2 : decide (K.length < p.length) = false := decide_eq_false (by rcases HMAX2.out with h | h <;> omega)
              go_wp2_with fail
              refine (J.out).mono ?_
              rintro e w12 ⟨rfl, hb⟩
              replace HL := Lib.hid (HL.out.later hb)
              replace HV := Lib.hid (HV.out.later hb)
              replace HAA := Lib.hid (HAA.out.later hb)
              replace HB := Lib.hid (HB.out.trans (hb.mono HB.out.size))
              clear hb J
              clear tk tk' tm tg tg2 HMX hle hmx HK HKA HP HPA HMAX2 HKEEP2
              go_wp2_with fail
              clear ta ta'
              go_loopw [10] (fun i wr => ∃ k : Nat, k ≤ A.length ∧ i = .int .i64 k ∧ Hid (Below w12.heap.size w12 wr)) (fun i _ => A.length - (intOf i).toNat)
              case atStart => exact ⟨0, Nat.zero_le _, rfl, Lib.hid (Below.refl _ _)⟩
              case round =>
                obtain ⟨k, hk, rfl, HQ⟩ := hrel
                by_cases hlt : k < A.length
                · obtain ⟨xa, hxa, hxl, ca⟩ := (HAA.out.later HQ.out) k hlt
                  subst hxa
                  have hin := HADD2.out (A.getD k 0) (getD_in hlt)
                  have j1 := implHasRoomA aL cL L (A.getD k 0) wr (by omega) (HL.out.later HQ.out)
                  rw [hin.1] at j1
                  have j2 := fun W (hw : Below wr.heap.size wr W) => specHas_any y3 q3 al (A.getD k 0) W (by omega) ((HV.out.later HQ.out).later hw)
                  rw [decide_eq_true hin.2] at j2
                  have J1 := Lib.hid j1
                  have J2 := Lib.hid j2
                  have k3 : (0 : Int) ≤ (k : Int) := by omega
                  have k5 : (k : Int) < (A.length : Int) := by omega
                  have HCA := Lib.hid (fun W (hw : Below wr.heap.size wr W) => (hw.cell (p := xa.add k) (by unfold Addr.add; split <;> exact hxl)).trans ca)
                  clear j1 j2 hin
                  generalize A.getD k 0 = y at *
                  go_wp2_with (first | (go_at_call 21; with_reducible refine (J1.out).mono ?_; rintro e w13 ⟨rfl, hb⟩; have ca2 := HCA.out _ hb) | (go_at_call 22; with_reducible refine (J2.out _ hb).mono ?_; rintro e w14 ⟨rfl, rfl⟩))
                  go_roundw
                  case rel => exact ⟨k + 1, by omega, by go_num, Lib.hid (HQ.out.trans (hb.mono HQ.out.size))⟩
                  case measure => simp [intOf]; omega
                · have hb := HQ.out
                  replace HB := Lib.hid (HB.out.trans (hb.mono HB.out.size))
                  clear hb HQ HL HV HAA HADD2 hA
                  obtain ⟨wM, rfl⟩ : ∃ W, W = wr := ⟨_, rfl⟩
                  have J := Lib.hid (drawPickSpare a0 len0 cap0 z0 wM (hcode.out.below HB.out))
                  go_wp2_with fail
                  refine (J.out).mono ?_
                  rintro e wN ⟨v1, v2, v3, L, m, av, rfl, hL, hm, hv, hP, ho2, ho3, hb⟩
                  obtain ⟨aL, cL, rfl, hat, _⟩ := hP
                  obtain ⟨y2, q2, rfl, _, _, at2, _⟩ := ho2.form
                  obtain ⟨y3, q3, rfl, _, _, at3, _⟩ := ho3.form
                  have HL := Lib.hid hat
                  have HM := Lib.hid at2
                  have HV := Lib.hid at3
                  have HOM := Lib.hid ho2
                  have HOV := Lib.hid ho3
                  clear hat at2 at3 ho2 ho3
                  replace HB := Lib.hid (HB.out.trans (hb.mono HB.out.size))
                  clear hb J
                  have J := Lib.hid (implPickSpareA aL cL L _ _ m _ _ av wN (by omega) (by omega) (by omega) HL.out HOM.out HOV.out)
                  go_wp2_with fail
                  refine (J.out).mono ?_
                  rintro e wO ⟨rfl, hb⟩
                  replace HL := Lib.hid (HL.out.later hb)
                  replace HM := Lib.hid (HM.out.later hb)
                  replace HV := Lib.hid (HV.out.later hb)
                  replace HOM := Lib.hid (HOM.out.later hb)
                  replace HOV := Lib.hid (HOV.out.later hb)
                  replace HB := Lib.hid (HB.out.trans (hb.mono HB.out.size))
                  clear hb J
                  have J0 := specPickSpareA aL cL L y2 q2 m y3 q3 av wO (by omega) (by omega) (by omega) HL.out HM.out HV.out
                  have HS := Lib.hid (fun h => spare_law (L := L) (m := m) (a := av) h)
                  generalize spareP L m av = s at *
                  have ts : (s != s) = false := by simp
                  have J := Lib.hid J0
                  clear J0
                  go_wp2_with fail
                  refine (J.out).mono ?_
                  rintro e wP ⟨rfl, hb⟩
                  replace HL := Lib.hid (HL.out.later hb)
                  replace HM := Lib.hid (HM.out.later hb)
                  replace HV := Lib.hid (HV.out.later hb)
                  replace HOM := Lib.hid (HOM.out.later hb)
                  replace HOV := Lib.hid (HOV.out.later hb)
                  replace HB := Lib.hid (HB.out.trans (hb.mono HB.out.size))
                  clear hb J
                  have hrl := racksP_len L m
                  have J := Lib.hid (implRacksOfA aL cL L y2 q2 m wP (by omega) (by omega) HL.out HM.out)
                  go_wp2_with fail
                  refine (J.out).mono ?_
                  rintro e wQ ⟨u1, rfl, ho, hb⟩
                  obtain ⟨x1, p1, rfl⟩ := ho.shape
                  have HR1 := Lib.hid ho
                  clear ho
                  replace HL := Lib.hid (HL.out.later hb)
                  replace HM := Lib.hid (HM.out.later hb)
                  replace HV := Lib.hid (HV.out.later hb)
                  replace HOM := Lib.hid (HOM.out.later hb)
                  replace HOV := Lib.hid (HOV.out.later hb)
                  replace HB := Lib.hid (HB.out.trans (hb.mono HB.out.size))
                  clear hb J
                  have J := Lib.hid (specRacksOfA aL cL L y2 q2 m wQ (by omega) (by omega) HL.out HM.out)
                  go_wp2_with fail
                  refine (J.out).mono ?_
                  rintro e wR ⟨u2, rfl, ho, hb⟩
                  obtain ⟨x2, p2, rfl⟩ := ho.shape
                  have HR2 := Lib.hid ho
                  clear ho
                  replace HL := Lib.hid (HL.out.later hb)
                  replace HM := Lib.hid (HM.out.later hb)
                  replace HV := Lib.hid (HV.out.later hb)
                  replace HOM := Lib.hid (HOM.out.later hb)
                  replace HOV := Lib.hid (HOV.out.later hb)
                  replace HR1 := Lib.hid (HR1.out.later hb)
                  replace HB := Lib.hid (HB.out.trans (hb.mono HB.out.size))
                  clear hb J
                  have J0 := sameInts _ _ (racksP L m) _ _ (racksP L m) wR (by omega) HR1.out (by omega) HR2.out
                  rw [decide_eq_true rfl] at J0
                  have J := Lib.hid J0
                  clear J0
                  go_wp2_with fail
                  refine (J.out).mono ?_
                  rintro e wS ⟨rfl, hb⟩
                  replace HL := Lib.hid (HL.out.later hb)
                  replace HM := Lib.hid (HM.out.later hb)
                  replace HV := Lib.hid (HV.out.later hb)
                  replace HOM := Lib.hid (HOM.out.later hb)
                  replace HOV := Lib.hid (HOV.out.later hb)
                  replace HB := Lib.hid (HB.out.trans (hb.mono HB.out.size))
                  clear hb J
                  clear HR1 HR2
                  have J := Lib.hid (implIsSpreadA aL cL L y2 q2 m wS (by omega) (by omega) HL.out HM.out)
                  go_wp2_with fail
                  refine (J.out).mono ?_
                  rintro e wT ⟨rfl, hb⟩
                  replace HL := Lib.hid (HL.out.later hb)
                  replace HM := Lib.hid (HM.out.later hb)
                  replace HV := Lib.hid (HV.out.later hb)
                  replace HOM := Lib.hid (HOM.out.later hb)
                  replace HOV := Lib.hid (HOV.out.later hb)
                  replace HB := Lib.hid (HB.out.trans (hb.mono HB.out.size))
                  clear hb J
                  have J0 := specIsSpreadA aL cL L y2 q2 m wT (by omega) (by omega) HL.out HM.out
                  generalize spreadP L m = sp at *
                  have tp : (sp != sp) = false := by simp
                  have J := Lib.hid J0
                  clear J0
                  go_wp2_with fail
                  refine (J.out).mono ?_
                  rintro e wU ⟨rfl, hb⟩
                  replace HL := Lib.hid (HL.out.later hb)
                  replace HM := Lib.hid (HM.out.later hb)
                  replace HV := Lib.hid (HV.out.later hb)
                  replace HOM := Lib.hid (HOM.out.later hb)
                  replace HOV := Lib.hid (HOV.out.later hb)
                  replace HB := Lib.hid (HB.out.trans (hb.mono HB.out.size))
                  clear hb J
                  clear tp ts
                  by_cases h0 : s < 0
                  · have t0 : decide (s < 0) = true := decide_eq_true h0
                    clear h0
                    go_wp2_with fail
                    go_ret
                    exact ⟨rfl, HB.out⟩
                  have HS2 := Lib.hid (HS.out (by omega))
                  have t0 : decide (s < 0) = false := decide_eq_false h0
                  clear h0 HS
                  have J1 := implHasRoomA aL cL L s wU (by omega) HL.out
                  rw [HS2.out.1] at J1
                  have J2 := fun W (hw : Below wU.heap.size wU W) => specHas_any y2 q2 m s W (by omega) (HM.out.later hw)
                  rw [HS2.out.2.1] at J2
                  have J3 := fun W (hw : Below wU.heap.size wU W) => specHas_any y3 q3 av s W (by omega) (HV.out.later hw)
                  rw [HS2.out.2.2] at J3
                  have J1 := Lib.hid J1
                  have J2 := Lib.hid J2
                  have J3 := Lib.hid J3
                  go_wp2_with (first | (go_at_call 21; with_reducible refine (J1.out).mono ?_; rintro e wV ⟨rfl, hb⟩) | (go_at_call 22; first | (with_reducible refine (J2.out _ hb).mono ?_; rintro e wW ⟨rfl, rfl⟩) | (with_reducible refine (J3.out _ hb).mono ?_; rintro e wX ⟨rfl, rfl⟩)))
                  go_ret
                  exact ⟨rfl, HB.out.trans (hb.mono HB.out.size)⟩
            · have hmx : max z (K.length : Int) = z := by omega
              have tg := tm z (.inl rfl) (Int.le_refl _) hle
              have HMX := Lib.hid hmx
              have tg2 := tg
              go_wp2_with fail
              refine (J.out).mono ?_
              rintro e w12 ⟨rfl, hb⟩
              replace HL := Lib.hid (HL.out.later hb)
              replace HV := Lib.hid (HV.out.later hb)
              replace HAA := Lib.hid (HAA.out.later hb)
              replace HB := Lib.hid (HB.out.trans (hb.mono HB.out.size))
              clear hb J
              clear tk tk' tm tg tg2 HMX hle hmx HK HKA HP HPA HMAX2 HKEEP2
              go_wp2_with fail
              clear ta ta'
              go_loopw [10] (fun i wr => ∃ k : Nat, k ≤ A.length ∧ i = .int .i64 k ∧ Hid (Below w12.heap.size w12 wr)) (fun i _ => A.length - (intOf i).toNat)
              case atStart => exact ⟨0, Nat.zero_le _, rfl, Lib.hid (Below.refl _ _)⟩
              case round =>
                obtain ⟨k, hk, rfl, HQ⟩ := hrel
                by_cases hlt : k < A.length
                · obtain ⟨xa, hxa, hxl, ca⟩ := (HAA.out.later HQ.out) k hlt
                  subst hxa
                  have hin := HADD2.out (A.getD k 0) (getD_in hlt)
                  have j1 := implHasRoomA aL cL L (A.getD k 0) wr (by omega) (HL.out.later HQ.out)
                  rw [hin.1] at j1
                  have j2 := fun W (hw : Below wr.heap.size wr W) => specHas_any y3 q3 al (A.getD k 0) W (by omega) ((HV.out.later HQ.out).later hw)
                  rw [decide_eq_true hin.2] at j2
                  have J1 := Lib.hid j1
                  have J2 := Lib.hid j2
                  have k3 : (0 : Int) ≤ (k : Int) := by omega
                  have k5 : (k : Int) < (A.length : Int) := by omega
                  have HCA := Lib.hid (fun W (hw : Below wr.heap.size wr W) => (hw.cell (p := xa.add k) (by unfold Addr.add; split <;> exact hxl)).trans ca)
                  clear j1 j2 hin
                  generalize A.getD k 0 = y at *
                  go_wp2_with (first | (go_at_call 21; with_reducible refine (J1.out).mono ?_; rintro e w13 ⟨rfl, hb⟩; have ca2 := HCA.out _ hb) | (go_at_call 22; with_reducible refine (J2.out _ hb).mono ?_; rintro e w14 ⟨rfl, rfl⟩))
                  go_roundw
                  case rel => exact ⟨k + 1, by omega, by go_num, Lib.hid (HQ.out.trans (hb.mono HQ.out.size))⟩
                  case measure => simp [intOf]; omega
                · have hb := HQ.out
                  replace HB := Lib.hid (HB.out.trans (hb.mono HB.out.size))
                  clear hb HQ HL HV HAA HADD2 hA
                  obtain ⟨wM, rfl⟩ : ∃ W, W = wr := ⟨_, rfl⟩
                  have J := Lib.hid (drawPickSpare a0 len0 cap0 z0 wM (hcode.out.below HB.out))
                  go_wp2_with fail
                  refine (J.out).mono ?_
                  rintro e wN ⟨v1, v2, v3, L, m, av, rfl, hL, hm, hv, hP, ho2, ho3, hb⟩
                  obtain ⟨aL, cL, rfl, hat, _⟩ := hP
                  obtain ⟨y2, q2, rfl, _, _, at2, _⟩ := ho2.form
                  obtain ⟨y3, q3, rfl, _, _, at3, _⟩ := ho3.form
                  have HL := Lib.hid hat
                  have HM := Lib.hid at2
                  have HV := Lib.hid at3
                  have HOM := Lib.hid ho2
                  have HOV := Lib.hid ho3
                  clear hat at2 at3 ho2 ho3
                  replace HB := Lib.hid (HB.out.trans (hb.mono HB.out.size))
                  clear hb J
                  have J := Lib.hid (implPickSpareA aL cL L _ _ m _ _ av wN (by omega) (by omega) (by omega) HL.out HOM.out HOV.out)
                  go_wp2_with fail
                  refine (J.out).mono ?_
                  rintro e wO ⟨rfl, hb⟩
                  replace HL := Lib.hid (HL.out.later hb)
                  replace HM := Lib.hid (HM.out.later hb)
                  replace HV := Lib.hid (HV.out.later hb)
                  replace HOM := Lib.hid (HOM.out.later hb)
                  replace HOV := Lib.hid (HOV.out.later hb)
                  replace HB := Lib.hid (HB.out.trans (hb.mono HB.out.size))
                  clear hb J
                  have J0 := specPickSpareA aL cL L y2 q2 m y3 q3 av wO (by omega) (by omega) (by omega) HL.out HM.out HV.out
                  have HS := Lib.hid (fun h => spare_law (L := L) (m := m) (a := av) h)
                  generalize spareP L m av = s at *
                  have ts : (s != s) = false := by simp
                  have J := Lib.hid J0
                  clear J0
                  go_wp2_with fail
                  refine (J.out).mono ?_
                  rintro e wP ⟨rfl, hb⟩
                  replace HL := Lib.hid (HL.out.later hb)
                  replace HM := Lib.hid (HM.out.later hb)
                  replace HV := Lib.hid (HV.out.later hb)
                  replace HOM := Lib.hid (HOM.out.later hb)
                  replace HOV := Lib.hid (HOV.out.later hb)
                  replace HB := Lib.hid (HB.out.trans (hb.mono HB.out.size))
                  clear hb J
                  have hrl := racksP_len L m
                  have J := Lib.hid (implRacksOfA aL cL L y2 q2 m wP (by omega) (by omega) HL.out HM.out)
                  go_wp2_with fail
                  refine (J.out).mono ?_
                  rintro e wQ ⟨u1, rfl, ho, hb⟩
                  obtain ⟨x1, p1, rfl⟩ := ho.shape
                  have HR1 := Lib.hid ho
                  clear ho
                  replace HL := Lib.hid (HL.out.later hb)
                  replace HM := Lib.hid (HM.out.later hb)
                  replace HV := Lib.hid (HV.out.later hb)
                  replace HOM := Lib.hid (HOM.out.later hb)
                  replace HOV := Lib.hid (HOV.out.later hb)
                  replace HB := Lib.hid (HB.out.trans (hb.mono HB.out.size))
                  clear hb J
                  have J := Lib.hid (specRacksOfA aL cL L y2 q2 m wQ (by omega) (by omega) HL.out HM.out)
                  go_wp2_with fail
                  refine (J.out).mono ?_
                  rintro e wR ⟨u2, rfl, ho, hb⟩
                  obtain ⟨x2, p2, rfl⟩ := ho.shape
                  have HR2 := Lib.hid ho
                  clear ho
                  replace HL := Lib.hid (HL.out.later hb)
                  replace HM := Lib.hid (HM.out.later hb)
                  replace HV := Lib.hid (HV.out.later hb)
                  replace HOM := Lib.hid (HOM.out.later hb)
                  replace HOV := Lib.hid (HOV.out.later hb)
                  replace HR1 := Lib.hid (HR1.out.later hb)
                  replace HB := Lib.hid (HB.out.trans (hb.mono HB.out.size))
                  clear hb J
                  have J0 := sameInts _ _ (racksP L m) _ _ (racksP L m) wR (by omega) HR1.out (by omega) HR2.out
                  rw [decide_eq_true rfl] at J0
                  have J := Lib.hid J0
                  clear J0
                  go_wp2_with fail
                  refine (J.out).mono ?_
                  rintro e wS ⟨rfl, hb⟩
                  replace HL := Lib.hid (HL.out.later hb)
                  replace HM := Lib.hid (HM.out.later hb)
                  replace HV := Lib.hid (HV.out.later hb)
                  replace HOM := Lib.hid (HOM.out.later hb)
                  replace HOV := Lib.hid (HOV.out.later hb)
                  replace HB := Lib.hid (HB.out.trans (hb.mono HB.out.size))
                  clear hb J
                  clear HR1 HR2
                  have J := Lib.hid (implIsSpreadA aL cL L y2 q2 m wS (by omega) (by omega) HL.out HM.out)
                  go_wp2_with fail
                  refine (J.out).mono ?_
                  rintro e wT ⟨rfl, hb⟩
                  replace HL := Lib.hid (HL.out.later hb)
                  replace HM := Lib.hid (HM.out.later hb)
                  replace HV := Lib.hid (HV.out.later hb)
                  replace HOM := Lib.hid (HOM.out.later hb)
                  replace HOV := Lib.hid (HOV.out.later hb)
                  replace HB := Lib.hid (HB.out.trans (hb.mono HB.out.size))
                  clear hb J
                  have J0 := specIsSpreadA aL cL L y2 q2 m wT (by omega) (by omega) HL.out HM.out
                  generalize spreadP L m = sp at *
                  have tp : (sp != sp) = false := by simp
                  have J := Lib.hid J0
                  clear J0
                  go_wp2_with fail
                  refine (J.out).mono ?_
                  rintro e wU ⟨rfl, hb⟩
                  replace HL := Lib.hid (HL.out.later hb)
                  replace HM := Lib.hid (HM.out.later hb)
                  replace HV := Lib.hid (HV.out.later hb)
                  replace HOM := Lib.hid (HOM.out.later hb)
                  replace HOV := Lib.hid (HOV.out.later hb)
                  replace HB := Lib.hid (HB.out.trans (hb.mono HB.out.size))
                  clear hb J
                  clear tp ts
                  by_cases h0 : s < 0
                  · have t0 : decide (s < 0) = true := decide_eq_true h0
                    clear h0
                    go_wp2_with fail
                    go_ret
                    exact ⟨rfl, HB.out⟩
                  have HS2 := Lib.hid (HS.out (by omega))
                  have t0 : decide (s < 0) = false := decide_eq_false h0
                  clear h0 HS
                  have J1 := implHasRoomA aL cL L s wU (by omega) HL.out
                  rw [HS2.out.1] at J1
                  have J2 := fun W (hw : Below wU.heap.size wU W) => specHas_any y2 q2 m s W (by omega) (HM.out.later hw)
                  rw [HS2.out.2.1] at J2
                  have J3 := fun W (hw : Below wU.heap.size wU W) => specHas_any y3 q3 av s W (by omega) (HV.out.later hw)
                  rw [HS2.out.2.2] at J3
                  have J1 := Lib.hid J1
                  have J2 := Lib.hid J2
                  have J3 := Lib.hid J3
                  go_wp2_with (first | (go_at_call 21; with_reducible refine (J1.out).mono ?_; rintro e wV ⟨rfl, hb⟩) | (go_at_call 22; first | (with_reducible refine (J2.out _ hb).mono ?_; rintro e wW ⟨rfl, rfl⟩) | (with_reducible refine (J3.out _ hb).mono ?_; rintro e wX ⟨rfl, rfl⟩)))
                  go_ret
                  exact ⟨rfl, HB.out.trans (hb.mono HB.out.size)⟩
          · have tz0 : decide (z ≥ 0) = true := decide_eq_true hz0
            have tz5 : decide (z ≤ 5) = false := decide_eq_false hz5
            clear hz0 hz5
            have J1 := Lib.hid j1
            have J2 := Lib.hid j2
            have J3 := Lib.hid j3
            clear j1 j2 j3 hf
            go_wp2_with (first | (go_at_call 16; with_reducible refine (J1.out).mono ?_; rintro e w6 ⟨rfl, rfl⟩) | (go_at_call 17; first | (with_reducible refine (J2.out).mono ?_; rintro e w7 ⟨rfl, hd7⟩) | (with_reducible refine (J3.out _ hd7).mono ?_; rintro e w8 ⟨rfl, hd8⟩)))
            obtain ⟨wM, rfl⟩ : ∃ W, W = w8 := ⟨_, rfl⟩
            have hb := (hd7.trans hd8).below w5.heap.size
            replace HB := Lib.hid (HB.out.trans (hb.mono HB.out.size))
            clear HL HM HV HOM HOV HP HPA HKEEP HMAX HADD
            have J := Lib.hid (drawPickSpare a0 len0 cap0 z0 wM (hcode.out.below HB.out))
            go_wp2_with fail
            refine (J.out).mono ?_
            rintro e wN ⟨v1, v2, v3, L, m, av, rfl, hL, hm, hv, hP, ho2, ho3, hb⟩
            obtain ⟨aL, cL, rfl, hat, _⟩ := hP
            obtain ⟨y2, q2, rfl, _, _, at2, _⟩ := ho2.form
            obtain ⟨y3, q3, rfl, _, _, at3, _⟩ := ho3.form
            have HL := Lib.hid hat
            have HM := Lib.hid at2
            have HV := Lib.hid at3
            have HOM := Lib.hid ho2
            have HOV := Lib.hid ho3
            clear hat at2 at3 ho2 ho3
            replace HB := Lib.hid (HB.out.trans (hb.mono HB.out.size))
            clear hb J
            have J := Lib.hid (implPickSpareA aL cL L _ _ m _ _ av wN (by omega) (by omega) (by omega) HL.out HOM.out HOV.out)
            go_wp2_with fail
            refine (J.out).mono ?_
            rintro e wO ⟨rfl, hb⟩
            replace HL := Lib.hid (HL.out.later hb)
            replace HM := Lib.hid (HM.out.later hb)
            replace HV := Lib.hid (HV.out.later hb)
            replace HOM := Lib.hid (HOM.out.later hb)
            replace HOV := Lib.hid (HOV.out.later hb)
            replace HB := Lib.hid (HB.out.trans (hb.mono HB.out.size))
            clear hb J
            have J0 := specPickSpareA aL cL L y2 q2 m y3 q3 av wO (by omega) (by omega) (by omega) HL.out HM.out HV.out
            have HS := Lib.hid (fun h => spare_law (L := L) (m := m) (a := av) h)
            generalize spareP L m av = s at *
            have ts : (s != s) = false := by simp
            have J := Lib.hid J0
            clear J0
            go_wp2_with fail
            refine (J.out).mono ?_
            rintro e wP ⟨rfl, hb⟩
            replace HL := Lib.hid (HL.out.later hb)
            replace HM := Lib.hid (HM.out.later hb)
            replace HV := Lib.hid (HV.out.later hb)
            replace HOM := Lib.hid (HOM.out.later hb)
            replace HOV := Lib.hid (HOV.out.later hb)
            replace HB := Lib.hid (HB.out.trans (hb.mono HB.out.size))
            clear hb J
            have hrl := racksP_len L m
            have J := Lib.hid (implRacksOfA aL cL L y2 q2 m wP (by omega) (by omega) HL.out HM.out)
            go_wp2_with fail
            refine (J.out).mono ?_
            rintro e wQ ⟨u1, rfl, ho, hb⟩
            obtain ⟨x1, p1, rfl⟩ := ho.shape
            have HR1 := Lib.hid ho
            clear ho
            replace HL := Lib.hid (HL.out.later hb)
            replace HM := Lib.hid (HM.out.later hb)
            replace HV := Lib.hid (HV.out.later hb)
            replace HOM := Lib.hid (HOM.out.later hb)
            replace HOV := Lib.hid (HOV.out.later hb)
            replace HB := Lib.hid (HB.out.trans (hb.mono HB.out.size))
            clear hb J
            have J := Lib.hid (specRacksOfA aL cL L y2 q2 m wQ (by omega) (by omega) HL.out HM.out)
            go_wp2_with fail
            refine (J.out).mono ?_
            rintro e wR ⟨u2, rfl, ho, hb⟩
            obtain ⟨x2, p2, rfl⟩ := ho.shape
            have HR2 := Lib.hid ho
            clear ho
            replace HL := Lib.hid (HL.out.later hb)
            replace HM := Lib.hid (HM.out.later hb)
            replace HV := Lib.hid (HV.out.later hb)
            replace HOM := Lib.hid (HOM.out.later hb)
            replace HOV := Lib.hid (HOV.out.later hb)
            replace HR1 := Lib.hid (HR1.out.later hb)
            replace HB := Lib.hid (HB.out.trans (hb.mono HB.out.size))
            clear hb J
            have J0 := sameInts _ _ (racksP L m) _ _ (racksP L m) wR (by omega) HR1.out (by omega) HR2.out
            rw [decide_eq_true rfl] at J0
            have J := Lib.hid J0
            clear J0
            go_wp2_with fail
            refine (J.out).mono ?_
            rintro e wS ⟨rfl, hb⟩
            replace HL := Lib.hid (HL.out.later hb)
            replace HM := Lib.hid (HM.out.later hb)
            replace HV := Lib.hid (HV.out.later hb)
            replace HOM := Lib.hid (HOM.out.later hb)
            replace HOV := Lib.hid (HOV.out.later hb)
            replace HB := Lib.hid (HB.out.trans (hb.mono HB.out.size))
            clear hb J
            clear HR1 HR2
            have J := Lib.hid (implIsSpreadA aL cL L y2 q2 m wS (by omega) (by omega) HL.out HM.out)
            go_wp2_with fail
            refine (J.out).mono ?_
            rintro e wT ⟨rfl, hb⟩
            replace HL := Lib.hid (HL.out.later hb)
            replace HM := Lib.hid (HM.out.later hb)
            replace HV := Lib.hid (HV.out.later hb)
            replace HOM := Lib.hid (HOM.out.later hb)
            replace HOV := Lib.hid (HOV.out.later hb)
            replace HB := Lib.hid (HB.out.trans (hb.mono HB.out.size))
            clear hb J
            have J0 := specIsSpreadA aL cL L y2 q2 m wT (by omega) (by omega) HL.out HM.out
            generalize spreadP L m = sp at *
            have tp : (sp != sp) = false := by simp
            have J := Lib.hid J0
            clear J0
            go_wp2_with fail
            refine (J.out).mono ?_
            rintro e wU ⟨rfl, hb⟩
            replace HL := Lib.hid (HL.out.later hb)
            replace HM := Lib.hid (HM.out.later hb)
            replace HV := Lib.hid (HV.out.later hb)
            replace HOM := Lib.hid (HOM.out.later hb)
            replace HOV := Lib.hid (HOV.out.later hb)
            replace HB := Lib.hid (HB.out.trans (hb.mono HB.out.size))
            clear hb J
            clear tp ts
            by_cases h0 : s < 0
            · have t0 : decide (s < 0) = true := decide_eq_true h0
              clear h0
              go_wp2_with fail
              go_ret
              exact ⟨rfl, HB.out⟩
            have HS2 := Lib.hid (HS.out (by omega))
            have t0 : decide (s < 0) = false := decide_eq_false h0
            clear h0 HS
            have J1 := implHasRoomA aL cL L s wU (by omega) HL.out
            rw [HS2.out.1] at J1
            have J2 := fun W (hw : Below wU.heap.size wU W) => specHas_any y2 q2 m s W (by omega) (HM.out.later hw)
            rw [HS2.out.2.1] at J2
            have J3 := fun W (hw : Below wU.heap.size wU W) => specHas_any y3 q3 av s W (by omega) (HV.out.later hw)
            rw [HS2.out.2.2] at J3
            have J1 := Lib.hid J1
            have J2 := Lib.hid J2
            have J3 := Lib.hid J3
            go_wp2_with (first | (go_at_call 21; with_reducible refine (J1.out).mono ?_; rintro e wV ⟨rfl, hb⟩) | (go_at_call 22; first | (with_reducible refine (J2.out _ hb).mono ?_; rintro e wW ⟨rfl, rfl⟩) | (with_reducible refine (J3.out _ hb).mono ?_; rintro e wX ⟨rfl, rfl⟩)))
            go_ret
            exact ⟨rfl, HB.out.trans (hb.mono HB.out.size)⟩
        · have tz0 : decide (z ≥ 0) = false := decide_eq_false hz0
          clear hz0
          have J1 := Lib.hid j1
          have J2 := Lib.hid j2
          have J3 := Lib.hid j3
          clear j1 j2 j3 hf
          go_wp2_with (first | (go_at_call 16; with_reducible refine (J1.out).mono ?_; rintro e w6 ⟨rfl, rfl⟩) | (go_at_call 17; first | (with_reducible refine (J2.out).mono ?_; rintro e w7 ⟨rfl, hd7⟩) | (with_reducible refine (J3.out _ hd7).mono ?_; rintro e w8 ⟨rfl, hd8⟩)))
          obtain ⟨wM, rfl⟩ : ∃ W, W = w8 := ⟨_, rfl⟩
          have hb := (hd7.trans hd8).below w5.heap.size
          replace HB := Lib.hid (HB.out.trans (hb.mono HB.out.size))
          clear HL HM HV HOM HOV HP HPA HKEEP HMAX HADD
          have J := Lib.hid (drawPickSpare a0 len0 cap0 z0 wM (hcode.out.below HB.out))
          go_wp2_with fail
          refine (J.out).mono ?_
          rintro e wN ⟨v1, v2, v3, L, m, av, rfl, hL, hm, hv, hP, ho2, ho3, hb⟩
          obtain ⟨aL, cL, rfl, hat, _⟩ := hP
          obtain ⟨y2, q2, rfl, _, _, at2, _⟩ := ho2.form
          obtain ⟨y3, q3, rfl, _, _, at3, _⟩ := ho3.form
          have HL := Lib.hid hat
          have HM := Lib.hid at2
          have HV := Lib.hid at3
          have HOM := Lib.hid ho2
          have HOV := Lib.hid ho3
          clear hat at2 at3 ho2 ho3
          replace HB := Lib.hid (HB.out.trans (hb.mono HB.out.size))
          clear hb J
          have J := Lib.hid (implPickSpareA aL cL L _ _ m _ _ av wN (by omega) (by omega) (by omega) HL.out HOM.out HOV.out)
          go_wp2_with fail
          refine (J.out).mono ?_
          rintro e wO ⟨rfl, hb⟩
          replace HL := Lib.hid (HL.out.later hb)
          replace HM := Lib.hid (HM.out.later hb)
          replace HV := Lib.hid (HV.out.later hb)
          replace HOM := Lib.hid (HOM.out.later hb)
          replace HOV := Lib.hid (HOV.out.later hb)
          replace HB := Lib.hid (HB.out.trans (hb.mono HB.out.size))
          clear hb J
          have J0 := specPickSpareA aL cL L y2 q2 m y3 q3 av wO (by omega) (by omega) (by omega) HL.out HM.out HV.out
          have HS := Lib.hid (fun h => spare_law (L := L) (m := m) (a := av) h)
          generalize spareP L m av = s at *
          have ts : (s != s) = false := by simp
          have J := Lib.hid J0
          clear J0
          go_wp2_with fail
          refine (J.out).mono ?_
          rintro e wP ⟨rfl, hb⟩
          replace HL := Lib.hid (HL.out.later hb)
          replace HM := Lib.hid (HM.out.later hb)
          replace HV := Lib.hid (HV.out.later hb)
          replace HOM := Lib.hid (HOM.out.later hb)
          replace HOV := Lib.hid (HOV.out.later hb)
          replace HB := Lib.hid (HB.out.trans (hb.mono HB.out.size))
          clear hb J
          have hrl := racksP_len L m
          have J := Lib.hid (implRacksOfA aL cL L y2 q2 m wP (by omega) (by omega) HL.out HM.out)
          go_wp2_with fail
          refine (J.out).mono ?_
          rintro e wQ ⟨u1, rfl, ho, hb⟩
          obtain ⟨x1, p1, rfl⟩ := ho.shape
          have HR1 := Lib.hid ho
          clear ho
          replace HL := Lib.hid (HL.out.later hb)
          replace HM := Lib.hid (HM.out.later hb)
          replace HV := Lib.hid (HV.out.later hb)
          replace HOM := Lib.hid (HOM.out.later hb)
          replace HOV := Lib.hid (HOV.out.later hb)
          replace HB := Lib.hid (HB.out.trans (hb.mono HB.out.size))
          clear hb J
          have J := Lib.hid (specRacksOfA aL cL L y2 q2 m wQ (by omega) (by omega) HL.out HM.out)
          go_wp2_with fail
          refine (J.out).mono ?_
          rintro e wR ⟨u2, rfl, ho, hb⟩
          obtain ⟨x2, p2, rfl⟩ := ho.shape
          have HR2 := Lib.hid ho
          clear ho
          replace HL := Lib.hid (HL.out.later hb)
          replace HM := Lib.hid (HM.out.later hb)
          replace HV := Lib.hid (HV.out.later hb)
          replace HOM := Lib.hid (HOM.out.later hb)
          replace HOV := Lib.hid (HOV.out.later hb)
          replace HR1 := Lib.hid (HR1.out.later hb)
          replace HB := Lib.hid (HB.out.trans (hb.mono HB.out.size))
          clear hb J
          have J0 := sameInts _ _ (racksP L m) _ _ (racksP L m) wR (by omega) HR1.out (by omega) HR2.out
          rw [decide_eq_true rfl] at J0
          have J := Lib.hid J0
          clear J0
          go_wp2_with fail
          refine (J.out).mono ?_
          rintro e wS ⟨rfl, hb⟩
          replace HL := Lib.hid (HL.out.later hb)
          replace HM := Lib.hid (HM.out.later hb)
          replace HV := Lib.hid (HV.out.later hb)
          replace HOM := Lib.hid (HOM.out.later hb)
          replace HOV := Lib.hid (HOV.out.later hb)
          replace HB := Lib.hid (HB.out.trans (hb.mono HB.out.size))
          clear hb J
          clear HR1 HR2
          have J := Lib.hid (implIsSpreadA aL cL L y2 q2 m wS (by omega) (by omega) HL.out HM.out)
          go_wp2_with fail
          refine (J.out).mono ?_
          rintro e wT ⟨rfl, hb⟩
          replace HL := Lib.hid (HL.out.later hb)
          replace HM := Lib.hid (HM.out.later hb)
          replace HV := Lib.hid (HV.out.later hb)
          replace HOM := Lib.hid (HOM.out.later hb)
          replace HOV := Lib.hid (HOV.out.later hb)
          replace HB := Lib.hid (HB.out.trans (hb.mono HB.out.size))
          clear hb J
          have J0 := specIsSpreadA aL cL L y2 q2 m wT (by omega) (by omega) HL.out HM.out
          generalize spreadP L m = sp at *
          have tp : (sp != sp) = false := by simp
          have J := Lib.hid J0
          clear J0
          go_wp2_with fail
          refine (J.out).mono ?_
          rintro e wU ⟨rfl, hb⟩
          replace HL := Lib.hid (HL.out.later hb)
          replace HM := Lib.hid (HM.out.later hb)
          replace HV := Lib.hid (HV.out.later hb)
          replace HOM := Lib.hid (HOM.out.later hb)
          replace HOV := Lib.hid (HOV.out.later hb)
          replace HB := Lib.hid (HB.out.trans (hb.mono HB.out.size))
          clear hb J
          clear tp ts
          by_cases h0 : s < 0
          · have t0 : decide (s < 0) = true := decide_eq_true h0
            clear h0
            go_wp2_with fail
            go_ret
            exact ⟨rfl, HB.out⟩
          have HS2 := Lib.hid (HS.out (by omega))
          have t0 : decide (s < 0) = false := decide_eq_false h0
          clear h0 HS
          have J1 := implHasRoomA aL cL L s wU (by omega) HL.out
          rw [HS2.out.1] at J1
          have J2 := fun W (hw : Below wU.heap.size wU W) => specHas_any y2 q2 m s W (by omega) (HM.out.later hw)
          rw [HS2.out.2.1] at J2
          have J3 := fun W (hw : Below wU.heap.size wU W) => specHas_any y3 q3 av s W (by omega) (HV.out.later hw)
          rw [HS2.out.2.2] at J3
          have J1 := Lib.hid J1
          have J2 := Lib.hid J2
          have J3 := Lib.hid J3
          go_wp2_with (first | (go_at_call 21; with_reducible refine (J1.out).mono ?_; rintro e wV ⟨rfl, hb⟩) | (go_at_call 22; first | (with_reducible refine (J2.out _ hb).mono ?_; rintro e wW ⟨rfl, rfl⟩) | (with_reducible refine (J3.out _ hb).mono ?_; rintro e wX ⟨rfl, rfl⟩)))
          go_ret
          exact ⟨rfl, HB.out.trans (hb.mono HB.out.size)⟩
end Go.Proofs.Ytpdpejlcilnafaa.fnPlacement
