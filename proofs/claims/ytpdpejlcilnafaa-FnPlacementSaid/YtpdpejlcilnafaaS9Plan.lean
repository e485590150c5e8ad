/-
  Chapter 9: what spec's PlanMembers and IsSpread return.
-/
import Derived.Test.YtpdpejlcilnafaaS9Spare
namespace Go.Proofs.Ytpdpejlcilnafaa.kit
open Go.ChangeShapes Go.WideShapes Go.ChangeAt Go.RowKit
set_option linter.unusedVariables false
set_option linter.unusedSimpArgs false

set_option maxRecDepth 100000 in
set_option maxHeartbeats 4000000 in
theorem specIsSpreadA (a : Option Addr) (cp : Nat) (L : List Pla) (b : Option Addr) (cb : Nat) (m : List Int) (w : World) (hl : L.length ≤ 2097152) (hm : m.length ≤ 4194304) (ha : AtQ w a L) (hb : At w b m) :
    Calls Try.prog 29 #[.slice a L.length cp, .slice b m.length cb] w fun e w' => e = .returned (.bool (spreadP L m)) ∧ Below w.heap.size w w' := by
  have j1 := specArePlacesA a cp L w hl ha
  have j2 := specAre_any b cb m w hm hb
  have j3 := fun W (hd : Drawn w W) => specRacksOfA a cp L b cb m W hl hm (ha.later (hd.below _)) (hb.later (hd.below _))
  have hf : spreadP L m = (arePl L && (are m && decide ((racksP L m).length = m.length))) := rfl
  generalize arePl L = x at *
  generalize are m = y at *
  obtain ⟨P, hP⟩ : ∃ P, P = racksP L m := ⟨_, rfl⟩
  rw [← hP] at hf j3
  clear hP ha hb
  cases x with
  | false =>
    have HF := Lib.hid (show spreadP L m = false from hf)
    have J1 := Lib.hid j1; have J2 := Lib.hid j2; have J3 := Lib.hid j3
    clear hf j1 j2 j3
    go_enter Try.func29, Try.ntmps29
    go_wp2_with (first
      | (go_at_call 16; with_reducible refine (J1.out).mono ?_; rintro e w1 ⟨rfl, rfl⟩)
      | (go_at_call 17; with_reducible refine (J2.out).mono ?_; rintro e w2 ⟨rfl, hd2⟩)
      | (go_at_call 27; with_reducible refine (J3.out _ hd2).mono ?_; rintro e w3 ⟨v3, rfl, ho3, hb3⟩; obtain ⟨y3, q3, rfl⟩ := ho3.shape))
    go_ret
    exact ⟨by rw [HF.out]; rfl, Below.refl _ _⟩
  | true =>
    cases y with
    | false =>
      have HF := Lib.hid (show spreadP L m = false from hf)
      have J1 := Lib.hid j1; have J2 := Lib.hid j2; have J3 := Lib.hid j3
      clear hf j1 j2 j3
      go_enter Try.func29, Try.ntmps29
      go_wp2_with (first
        | (go_at_call 16; with_reducible refine (J1.out).mono ?_; rintro e w1 ⟨rfl, rfl⟩)
        | (go_at_call 17; with_reducible refine (J2.out).mono ?_; rintro e w2 ⟨rfl, hd2⟩)
        | (go_at_call 27; with_reducible refine (J3.out _ hd2).mono ?_; rintro e w3 ⟨v3, rfl, ho3, hb3⟩; obtain ⟨y3, q3, rfl⟩ := ho3.shape))
      go_ret
      exact ⟨by rw [HF.out]; rfl, hd2.below _⟩
    | true =>
      have hf' : spreadP L m = decide (P.length = m.length) := hf
      clear hf
      by_cases hq : P.length = m.length
      · have HF := Lib.hid (hf'.trans (decide_eq_true hq))
        have t1 : ((P.length : Int) == (m.length : Int)) = true := by rw [beq_iff_eq, hq]
        have t2 : (P.length == m.length) = true := by rw [beq_iff_eq, hq]
        have J1 := Lib.hid j1; have J2 := Lib.hid j2; have J3 := Lib.hid j3
        clear hf' j1 j2 j3 hq
        go_enter Try.func29, Try.ntmps29
        go_wp2_with (first
          | (go_at_call 16; with_reducible refine (J1.out).mono ?_; rintro e w1 ⟨rfl, rfl⟩)
          | (go_at_call 17; with_reducible refine (J2.out).mono ?_; rintro e w2 ⟨rfl, hd2⟩)
          | (go_at_call 27; with_reducible refine (J3.out _ hd2).mono ?_; rintro e w3 ⟨v3, rfl, ho3, hb3⟩; obtain ⟨y3, q3, rfl⟩ := ho3.shape))
        go_ret
        exact ⟨by rw [HF.out]; rfl, (hd2.below _).trans (hb3.mono (hd2.below w.heap.size).size)⟩
      · have HF := Lib.hid (hf'.trans (decide_eq_false hq))
        have t1 : ((P.length : Int) == (m.length : Int)) = false := by rw [beq_eq_false_iff_ne]; omega
        have t2 : (P.length == m.length) = false := by rw [beq_eq_false_iff_ne]; exact hq
        have J1 := Lib.hid j1; have J2 := Lib.hid j2; have J3 := Lib.hid j3
        clear hf' j1 j2 j3 hq
        go_enter Try.func29, Try.ntmps29
        go_wp2_with (first
          | (go_at_call 16; with_reducible refine (J1.out).mono ?_; rintro e w1 ⟨rfl, rfl⟩)
          | (go_at_call 17; with_reducible refine (J2.out).mono ?_; rintro e w2 ⟨rfl, hd2⟩)
          | (go_at_call 27; with_reducible refine (J3.out _ hd2).mono ?_; rintro e w3 ⟨v3, rfl, ho3, hb3⟩; obtain ⟨y3, q3, rfl⟩ := ho3.shape))
        go_ret
        exact ⟨by rw [HF.out]; rfl, (hd2.below _).trans (hb3.mono (hd2.below w.heap.size).size)⟩
theorem specIsSpread (b1 : Nat) (v1 : Value) (L : List Pla) (b2 : Nat) (v2 : Value) (m : List Int) (w : World) (h1 : L.length ≤ 2097152) (o1 : OwnQ b1 w v1 L) (h2 : m.length ≤ 4194304) (o2 : OwnI b2 w v2 m) :
    Calls Try.prog 29 #[v1, v2] w fun e w' => e = .returned (.bool (spreadP L m)) ∧ Below w.heap.size w w' := by
  obtain ⟨a1, c1, rfl, _, _, at1, _⟩ := o1.form
  obtain ⟨a2, c2, rfl, _, _, at2, _⟩ := o2.form
  exact specIsSpreadA a1 c1 L a2 c2 m w h1 h2 at1 at2
def lenI : Value → Nat
  | .slice _ n _ => n
  | _ => 0
theorem planOk_parts (L : List Pla) (m a : List Int) (want : Int) : planOk L m a want = (arePl L && (are m && (are a && decide (0 ≤ want ∧ want ≤ 5)))) := rfl
theorem five_at (w : World) : At (w.alloc (.cells #[.int .i64 0, .int .i64 1, .int .i64 2, .int .i64 3, .int .i64 4] 3)) (some ⟨w.heap.size, 0, none⟩) [0, 1, 2, 3, 4] := fun j hj => by
  have e : (⟨w.heap.size, 0, none⟩ : Addr).add j = ⟨w.heap.size, j, none⟩ := by unfold Addr.add; split <;> simp_all
  refine ⟨_, rfl, by simp, ?_⟩
  rw [e, World.cell?_alloc_at _ _ _ _ rfl]
  have hj' : j < 5 := hj
  rcases (by omega : j = 0 ∨ j = 1 ∨ j = 2 ∨ j = 3 ∨ j = 4) with rfl | rfl | rfl | rfl | rfl <;> rfl
set_option maxRecDepth 100000 in
set_option maxHeartbeats 4000000 in
theorem specPlanMembersA (a : Option Addr) (cp : Nat) (L : List Pla) (b : Option Addr) (cb : Nat) (m : List Int) (c : Option Addr) (cc : Nat) (al : List Int) (want : Int) (w : World) (hl : L.length ≤ 2097152) (hm : m.length ≤ 1048576) (hv : al.length ≤ 1048576) (ha : AtQ w a L) (hb : At w b m) (hc : At w c al) :
    Calls Try.prog 15 #[.slice a L.length cp, .slice b m.length cb, .slice c al.length cc, .int .i64 want] w fun e w' => ∃ v, e = .returned v ∧ OwnI w.heap.size w' v (planP L m al want) ∧ Below w.heap.size w w' := by
  have HA := Lib.hid ha
  have HM := Lib.hid hb
  have HV := Lib.hid hc
  have J := Lib.hid (specCommon_any b c cb cc m al w hm hv hb hc)
  clear ha hb hc
  go_enter Try.func15, Try.ntmps15
  go_wp2_with fail
  refine J.out.mono ?_
  rintro e w1 ⟨vC, rfl, hoC, hb1⟩
  replace HA := Lib.hid (HA.out.later hb1)
  replace HM := Lib.hid (HM.out.later hb1)
  replace HV := Lib.hid (HV.out.later hb1)
  have HC := Lib.hid hoC
  have HB := Lib.hid hb1
  clear hoC hb1 J
  have hbA : Below w1.heap.size w1 (w1.alloc (.cells #[.int .i64 0, .int .i64 1, .int .i64 2, .int .i64 3, .int .i64 4] 3)) := (Below.refl _ _).alloc (Nat.le_refl _) _
  have J := Lib.hid (specWithout_any (some ⟨w1.heap.size, 0, none⟩) c 5 cc [0, 1, 2, 3, 4] al _ (by simp) hv (five_at w1) (HV.out.later hbA))
  replace HA := Lib.hid (HA.out.later hbA)
  replace HM := Lib.hid (HM.out.later hbA)
  replace HV := Lib.hid (HV.out.later hbA)
  replace HC := Lib.hid (HC.out.later hbA)
  replace HB := Lib.hid (HB.out.trans (hbA.mono HB.out.size))
  clear hbA
  go_wp2_with fail
  refine J.out.mono ?_
  rintro e w2 ⟨vD, rfl, hoD, hb2⟩
  have hod := outP_without al
  unfold without at hod
  rw [hod] at hoD
  clear hod
  obtain ⟨aD, cD, rfl, _, _, atD, _⟩ := hoD.form
  replace HA := Lib.hid (HA.out.later hb2)
  replace HM := Lib.hid (HM.out.later hb2)
  replace HV := Lib.hid (HV.out.later hb2)
  replace HC := Lib.hid (HC.out.later hb2)
  replace HB := Lib.hid (HB.out.trans (hb2.mono HB.out.size))
  have HD := Lib.hid atD
  have hDl := outP_len al 5
  clear hoD hb2 J atD
  have j1 := specArePlacesA a cp L w2 hl HA.out
  have j2 := specAre_any b cb m w2 (by omega) HM.out
  have j3 := fun W (hd : Drawn w2 W) => specAre_any c cc al W (by omega) (HV.out.later (hd.below _))
  have j4 := fun W => inB want 0 5 W
  have hf := planOk_parts L m al want
  have HCL := Lib.hid (show are m = true → (common m al).length ≤ 5 from fun h => by
    have h1 := are_len h
    unfold common
    have h3 := puts_length (m.filter fun x => decide (x ∈ al)) []
    have h4 := List.length_filter_le (fun x => decide (x ∈ al)) m
    rw [List.length_nil] at h3
    omega)
  generalize arePl L = x1 at *
  generalize are m = x2 at *
  generalize are al = x3 at *
  have hx4 : decide (0 ≤ want ∧ want ≤ 5) = true → 0 ≤ want ∧ want ≤ 5 := of_decide_eq_true
  generalize decide (0 ≤ want ∧ want ≤ 5) = x4 at *
  cases x1 with
  | false =>
    clear hx4 HCL
    have HF := Lib.hid (show planP L m al want = [] from if_neg (by rw [hf]; simp))
    have J1 := Lib.hid j1; have J2 := Lib.hid j2; have J3 := Lib.hid j3; have J4 := Lib.hid j4
    clear hf j1 j2 j3 j4
    go_wp2_with (first
      | (go_at_call 16; with_reducible refine (J1.out).mono ?_; rintro e w3 ⟨rfl, rfl⟩)
      | (go_at_call 17; first | (with_reducible refine (J2.out).mono ?_; rintro e w4 ⟨rfl, hd4⟩) | (with_reducible refine (J3.out _ hd4).mono ?_; rintro e w5 ⟨rfl, hd5⟩))
      | (go_at_call 49; with_reducible refine (J4.out _).mono ?_; rintro e w6 ⟨rfl, rfl⟩))
    go_ret
    exact ⟨_, rfl, by rw [HF.out]; exact World.ownsRow_lit _ #[] 0 HB.out.size (Nat.zero_le _) rfl, HB.out.trans ((Below.refl _ _).alloc HB.out.size _)⟩
  | true =>
    cases x2 with
    | false =>
      clear hx4 HCL
      have HF := Lib.hid (show planP L m al want = [] from if_neg (by rw [hf]; simp))
      have J1 := Lib.hid j1; have J2 := Lib.hid j2; have J3 := Lib.hid j3; have J4 := Lib.hid j4
      clear hf j1 j2 j3 j4
      go_wp2_with (first
        | (go_at_call 16; with_reducible refine (J1.out).mono ?_; rintro e w3 ⟨rfl, rfl⟩)
        | (go_at_call 17; first | (with_reducible refine (J2.out).mono ?_; rintro e w4 ⟨rfl, hd4⟩) | (with_reducible refine (J3.out _ hd4).mono ?_; rintro e w5 ⟨rfl, hd5⟩))
        | (go_at_call 49; with_reducible refine (J4.out _).mono ?_; rintro e w6 ⟨rfl, rfl⟩))
      go_ret
      exact ⟨_, rfl, by rw [HF.out]; exact World.ownsRow_lit _ #[] 0 (Nat.le_trans HB.out.size (hd4.below w2.heap.size).size) (Nat.zero_le _) rfl, HB.out.trans (((hd4.below _).mono HB.out.size).trans ((Below.refl _ _).alloc (Nat.le_trans HB.out.size (hd4.below w2.heap.size).size) _))⟩
    | true =>
      replace HCL := Lib.hid (HCL.out rfl)
      cases x3 with
      | false =>
        clear hx4 HCL
        have HF := Lib.hid (show planP L m al want = [] from if_neg (by rw [hf]; simp))
        have J1 := Lib.hid j1; have J2 := Lib.hid j2; have J3 := Lib.hid j3; have J4 := Lib.hid j4
        clear hf j1 j2 j3 j4
        go_wp2_with (first
          | (go_at_call 16; with_reducible refine (J1.out).mono ?_; rintro e w3 ⟨rfl, rfl⟩)
          | (go_at_call 17; first | (with_reducible refine (J2.out).mono ?_; rintro e w4 ⟨rfl, hd4⟩) | (with_reducible refine (J3.out _ hd4).mono ?_; rintro e w5 ⟨rfl, hd5⟩))
          | (go_at_call 49; with_reducible refine (J4.out _).mono ?_; rintro e w6 ⟨rfl, rfl⟩))
        go_ret
        exact ⟨_, rfl, by rw [HF.out]; exact World.ownsRow_lit _ #[] 0 (Nat.le_trans HB.out.size ((hd4.trans hd5).below w2.heap.size).size) (Nat.zero_le _) rfl, HB.out.trans ((((hd4.trans hd5).below _).mono HB.out.size).trans ((Below.refl _ _).alloc (Nat.le_trans HB.out.size ((hd4.trans hd5).below w2.heap.size).size) _))⟩
      | true =>
        cases x4 with
        | false =>
          clear hx4 HCL
          have HF := Lib.hid (show planP L m al want = [] from if_neg (by rw [hf]; simp))
          have J1 := Lib.hid j1; have J2 := Lib.hid j2; have J3 := Lib.hid j3; have J4 := Lib.hid j4
          clear hf j1 j2 j3 j4
          go_wp2_with (first
            | (go_at_call 16; with_reducible refine (J1.out).mono ?_; rintro e w3 ⟨rfl, rfl⟩)
            | (go_at_call 17; first | (with_reducible refine (J2.out).mono ?_; rintro e w4 ⟨rfl, hd4⟩) | (with_reducible refine (J3.out _ hd4).mono ?_; rintro e w5 ⟨rfl, hd5⟩))
            | (go_at_call 49; with_reducible refine (J4.out _).mono ?_; rintro e w6 ⟨rfl, rfl⟩))
          go_ret
          exact ⟨_, rfl, by rw [HF.out]; exact World.ownsRow_lit _ #[] 0 (Nat.le_trans HB.out.size ((hd4.trans hd5).below w2.heap.size).size) (Nat.zero_le _) rfl, HB.out.trans ((((hd4.trans hd5).below _).mono HB.out.size).trans ((Below.refl _ _).alloc (Nat.le_trans HB.out.size ((hd4.trans hd5).below w2.heap.size).size) _))⟩
        | true =>
          have hw := hx4 rfl
          have HP := Lib.hid (show planP L m al want = fromP L (outP al 5) want (common m al) from if_pos hf)
          have J1 := Lib.hid j1; have J2 := Lib.hid j2; have J3 := Lib.hid j3; have J4 := Lib.hid j4
          obtain ⟨n, rfl⟩ := Int.eq_ofNat_of_zero_le hw.1
          have hn : n ≤ 5 := by omega
          clear hf j1 j2 j3 j4 hx4 hw
          go_wp2_with (first
            | (go_at_call 16; with_reducible refine (J1.out).mono ?_; rintro e w3 ⟨rfl, rfl⟩)
            | (go_at_call 17; first | (with_reducible refine (J2.out).mono ?_; rintro e w4 ⟨rfl, hd4⟩) | (with_reducible refine (J3.out _ hd4).mono ?_; rintro e w5 ⟨rfl, hd5⟩))
            | (go_at_call 49; with_reducible refine (J4.out _).mono ?_; rintro e w6 ⟨rfl, rfl⟩))
          have HW := Lib.hid ((hd4.trans hd5).below w2.heap.size)
          replace HA := Lib.hid (HA.out.later HW.out)
          replace HD := Lib.hid (HD.out.later HW.out)
          replace HC := Lib.hid (HC.out.later HW.out)
          replace HB := Lib.hid (HB.out.trans (HW.out.mono HB.out.size))
          clear hd4 hd5 HW J1 J2 J3 J4 HM HV
          go_loopw [9] (fun v wr => ∃ p : List Int, Hid (fromP L (outP al 5) (n : Int) (common m al) = fromP L (outP al 5) (n : Int) p) ∧ p.length ≤ 5 ∧ OwnI w.heap.size wr v p ∧ Below w5.heap.size w5 wr) (fun v _ => n - lenI v)
          case atStart => exact ⟨common m al, Lib.hid rfl, HCL.out, HC.out.mono (Nat.le_refl _), Below.refl _ _⟩
          case round =>
            obtain ⟨p, HE, hp5, ho, hb⟩ := hrel
            obtain ⟨aP, cP, rfl, _, _, atP, _⟩ := ho.form
            by_cases hlt : p.length < n
            · have j5 := specPickSpareA a cp L aP cP p aD cD (outP al 5) wr hl (by omega) (by omega) (HA.out.later hb) atP (HD.out.later hb)
              have HO := Lib.hid ho
              have HBr := Lib.hid hb
              have t1 : ((p.length : Int) < (n : Int)) := by omega
              by_cases hs : spareP L p (outP al 5) < 0
              · have HF := Lib.hid (show planP L m al (n : Int) = p by rw [HP.out, HE.out, fromP_stop hs])
                have t0 : decide (spareP L p (outP al 5) < 0) = true := decide_eq_true hs
                have J5 := Lib.hid j5
                clear j5 hs ho hb atP
                generalize spareP L p (outP al 5) = s at *
                go_wp2_with (go_at_call 25; with_reducible refine (J5.out).mono ?_; rintro e w6 ⟨rfl, hb6⟩)
                go_ret
                exact ⟨_, rfl, by rw [HF.out]; exact HO.out.later hb6, HB.out.trans ((HBr.out.trans (hb6.mono HBr.out.size)).mono HB.out.size)⟩
              · have HE2 := Lib.hid (show fromP L (outP al 5) (n : Int) (common m al) = fromP L (outP al 5) (n : Int) (put p (spareP L p (outP al 5))) from HE.out.trans (fromP_step (by omega) hs))
                have t0 : decide (spareP L p (outP al 5) < 0) = false := decide_eq_false hs
                have hlen := put_new (spareP_fresh hs)
                have J5 := Lib.hid j5
                clear j5 hs ho hb atP
                generalize spareP L p (outP al 5) = s at *
                have J6 := Lib.hid (fun W (hw : Below wr.heap.size wr W) => specPut w.heap.size _ p s W (by omega) (HO.out.later hw))
                obtain ⟨P2, hP2⟩ : ∃ P2, P2 = put p s := ⟨_, rfl⟩
                rw [← hP2] at hlen HE2 J6
                have hl2 : P2.length ≤ 5 := by omega
                have HL2 := Lib.hid hlen
                clear hP2 hlen
                go_wp2_with (first | (go_at_call 25; with_reducible refine (J5.out).mono ?_; rintro e w6 ⟨rfl, hb6⟩) | (go_at_call 50; with_reducible refine (J6.out _ hb6).mono ?_; rintro e w7 ⟨v7, rfl, ho7, hb7⟩; obtain ⟨y7, q7, rfl⟩ := ho7.shape))
                go_roundw
                case rel => exact ⟨P2, HE2, hl2, ho7.mono (Nat.le_trans HB.out.size (Nat.le_trans HBr.out.size hb6.size)), (HBr.out.trans (hb6.mono HBr.out.size)).trans (hb7.mono (Nat.le_trans HBr.out.size hb6.size))⟩
                case measure => have := HL2.out; simp [lenI]; omega
            · have HF := Lib.hid (show planP L m al (n : Int) = p by rw [HP.out, HE.out, fromP_done (by omega)])
              have HO := Lib.hid ho
              have HBr := Lib.hid hb
              have t1 : ¬ ((p.length : Int) < (n : Int)) := by omega
              clear ho hb atP
              go_wp2_with fail
              go_ret
              exact ⟨_, rfl, by rw [HF.out]; exact HO.out, HB.out.trans (HBr.out.mono HB.out.size)⟩
theorem specPlanMembers (b1 : Nat) (v1 : Value) (L : List Pla) (b2 : Nat) (v2 : Value) (m : List Int) (b3 : Nat) (v3 : Value) (al : List Int) (want : Int) (w : World) (h1 : L.length ≤ 2097152) (o1 : OwnQ b1 w v1 L) (h2 : m.length ≤ 1048576) (o2 : OwnI b2 w v2 m) (h3 : al.length ≤ 1048576) (o3 : OwnI b3 w v3 al) :
    Calls Try.prog 15 #[v1, v2, v3, .int .i64 want] w fun e w' => ∃ v, e = .returned v ∧ OwnI w.heap.size w' v (planP L m al want) ∧ Below w.heap.size w w' := by
  obtain ⟨a1, c1, rfl, _, _, at1, _⟩ := o1.form
  obtain ⟨a2, c2, rfl, _, _, at2, _⟩ := o2.form
  obtain ⟨a3, c3, rfl, _, _, at3, _⟩ := o3.form
  exact specPlanMembersA a1 c1 L a2 c2 m a3 c3 al want w h1 h2 h3 at1 at2 at3
end Go.Proofs.Ytpdpejlcilnafaa.kit
