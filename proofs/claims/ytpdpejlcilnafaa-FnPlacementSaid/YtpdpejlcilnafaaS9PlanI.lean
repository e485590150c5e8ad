/-
  Chapter 9: what impl's PlanMembers returns.
-/
import Derived.Test.YtpdpejlcilnafaaS9Pick
namespace Go.Proofs.Ytpdpejlcilnafaa.kit
open Go.ChangeShapes Go.WideShapes Go.ChangeAt Go.RowKit
set_option linter.unusedVariables false
set_option linter.unusedSimpArgs false

set_option maxRecDepth 100000 in
set_option maxHeartbeats 4000000 in
theorem implOutside (b : Nat) (v : Value) (al : List Int) (w : World) (hv : al.length ≤ 4194304) (o : OwnI b w v al) :
    Calls Try.prog 47 #[v] w fun e w' => ∃ u, e = .returned u ∧ OwnI w.heap.size w' u (outP al 5) ∧ Below w.heap.size w w' := by
  obtain ⟨yv, qv, rfl⟩ := o.shape
  have HV := Lib.hid o
  clear o
  go_enter Try.func47, Try.ntmps47
  go_wp2_with fail
  go_loopw [3, 4, 5] (fun v t i wr => ∃ k : Nat, k ≤ 5 ∧ i = .int .i64 k ∧ OwnI w.heap.size wr v (outP al k) ∧ Below w.heap.size w wr) (fun _ _ i _ => 5 - (intOf i).toNat)
  case atStart => exact ⟨0, Nat.zero_le _, rfl, ⟨rfl, .inl ⟨rfl, rfl⟩⟩, Below.refl _ _⟩
  case round =>
    obtain ⟨k, hk, rfl, ho, hb⟩ := hrel
    have HB := Lib.hid hb
    have HO := Lib.hid ho
    by_cases hlt : k < 5
    · have j4 := implHas_any b _ al (k : Int) wr hv (HV.out.later hb)
      have hpl := outP_len al k
      have hs0 := hb.size
      by_cases hm : (k : Int) ∈ al
      · rw [decide_eq_true hm] at j4
        have HF := Lib.hid (show outP al (k + 1) = outP al k by rw [outP_snoc, if_pos hm])
        have J4 := Lib.hid j4
        clear j4 hm ho hb
        go_wp2_with (go_at_call 54; with_reducible refine (J4.out).mono ?_; rintro e w4 ⟨rfl, rfl⟩)
        go_roundw
        case rel => exact ⟨k + 1, by omega, by go_num, by rw [HF.out]; exact HO.out, HB.out⟩
        case measure => simp [intOf]; omega
      · rw [decide_eq_false hm] at j4
        have HF := Lib.hid (show outP al (k + 1) = outP al k ++ [(k : Int)] by rw [outP_snoc, if_neg hm])
        have J4 := Lib.hid j4
        generalize outP al k = C at *
        have hown := HO.out.row
        clear j4 hm ho hb
        go_wp2_with (first | (go_at_call 54; with_reducible refine (J4.out).mono ?_; rintro e w4 ⟨rfl, rfl⟩) | (at_builtin; refine wpList_push1 rfl _ _ 25 rfl w.heap.size 3 (.int .i64 0) 8 Try.underlying25 infoI rfl _ _ _ rfl hown _ 1 rfl (by rfl) (by omega) (by omega) hs0 ?_; intro v' w9 hown' hb9 hg9))
        go_roundw
        case rel => exact ⟨k + 1, by omega, by go_num, by rw [HF.out]; exact OwnI.snoc hown', HB.out.trans hb9⟩
        case measure => simp [intOf]; omega
    · obtain rfl : k = 5 := by omega
      clear ho hb
      go_wp2_with fail
      go_ret
      exact ⟨_, rfl, HO.out, HB.out⟩
def lenP : Value → Nat
  | .slice _ n _ => n
  | _ => 0
set_option maxRecDepth 100000 in
set_option maxHeartbeats 4000000 in
theorem implPlanMembersA (a : Option Addr) (cp : Nat) (L : List Pla) (bm : Nat) (vm : Value) (m : List Int) (bv : Nat) (vv : Value) (al : List Int) (want : Int) (w : World) (hl : L.length ≤ 2097152) (hm : m.length ≤ 1048576) (hv : al.length ≤ 1048576) (ha : AtQ w a L) (om : OwnI bm w vm m) (ov : OwnI bv w vv al) :
    Calls Try.prog 13 #[.slice a L.length cp, vm, vv, .int .i64 want] w fun e w' => ∃ v, e = .returned v ∧ OwnI w.heap.size w' v (planP L m al want) ∧ Below w.heap.size w w' := by
  obtain ⟨ym, qm, rfl, _, _, atm, _⟩ := om.form
  obtain ⟨yv, qv, rfl, _, _, atv, _⟩ := ov.form
  have j1 := implArePlacesA a cp L w hl ha
  have j2 := fun W (hd : Below w.heap.size w W) => implAre_any ym qm m W (by omega) (atm.later hd)
  have j3 := fun W (hd : Below w.heap.size w W) => implAre_any yv qv al W (by omega) (atv.later hd)
  have j5 := fun W (hd : Below w.heap.size w W) => implCommonServers bm _ m bv _ al W hm (om.later hd) hv (ov.later hd)
  have j6 := fun W (hd : Below w.heap.size w W) => implOutside bv _ al W (by omega) (ov.later hd)
  have HA := Lib.hid ha
  have hf : planOk L m al want = (arePl L && (are m && (are al && decide (0 ≤ want ∧ want ≤ 5)))) := rfl
  have HCL := Lib.hid (show are m = true → (common m al).length ≤ 5 from fun h => by
    have h1 := are_len h
    unfold common
    have h3 := puts_length (m.filter fun x => decide (x ∈ al)) []
    have h4 := List.length_filter_le (fun x => decide (x ∈ al)) m
    rw [List.length_nil] at h3
    omega)
  generalize arePl L = x1 at *
  generalize are m = x2 at *
  generalize are al = x3 at *
  clear ha om ov atm atv
  cases x1 with
  | false =>
    clear HCL
    have HF := Lib.hid (show planP L m al want = [] from if_neg (by rw [hf]; simp))
    have J1 := Lib.hid j1; have J2 := Lib.hid j2; have J3 := Lib.hid j3; have J5 := Lib.hid j5; have J6 := Lib.hid j6
    clear hf j1 j2 j3 j5 j6
    go_enter Try.func13, Try.ntmps13
    go_wp2_with (first
      | (go_at_call 32; with_reducible refine (J1.out).mono ?_; rintro e w1 ⟨rfl, hb1⟩)
      | (go_at_call 45; first | (with_reducible refine (J2.out _ hb1).mono ?_; rintro e w2 ⟨rfl, hb2⟩; have hw2 := hb1.trans (hb2.mono hb1.size)) | (with_reducible refine (J3.out _ hw2).mono ?_; rintro e w3 ⟨rfl, hb3⟩; have hw3 := hw2.trans (hb3.mono hw2.size)))
      | (go_at_call 46; with_reducible refine (J5.out _ hw3).mono ?_; rintro e w4 ⟨v4, rfl, ho4, hb4⟩; obtain ⟨y4, q4, rfl⟩ := ho4.shape; have hw4 := hw3.trans (hb4.mono hw3.size))
      | (go_at_call 47; with_reducible refine (J6.out _ hw4).mono ?_; rintro e w5 ⟨v5, rfl, ho5, hb5⟩; obtain ⟨y5, q5, rfl⟩ := ho5.shape))
    go_ret
    exact ⟨_, rfl, by rw [HF.out]; exact ⟨rfl, .inl ⟨rfl, rfl⟩⟩, hb1⟩
  | true =>
    cases x2 with
    | false =>
      clear HCL
      have HF := Lib.hid (show planP L m al want = [] from if_neg (by rw [hf]; simp))
      have J1 := Lib.hid j1; have J2 := Lib.hid j2; have J3 := Lib.hid j3; have J5 := Lib.hid j5; have J6 := Lib.hid j6
      clear hf j1 j2 j3 j5 j6
      go_enter Try.func13, Try.ntmps13
      go_wp2_with (first
        | (go_at_call 32; with_reducible refine (J1.out).mono ?_; rintro e w1 ⟨rfl, hb1⟩)
        | (go_at_call 45; first | (with_reducible refine (J2.out _ hb1).mono ?_; rintro e w2 ⟨rfl, hb2⟩; have hw2 := hb1.trans (hb2.mono hb1.size)) | (with_reducible refine (J3.out _ hw2).mono ?_; rintro e w3 ⟨rfl, hb3⟩; have hw3 := hw2.trans (hb3.mono hw2.size)))
        | (go_at_call 46; with_reducible refine (J5.out _ hw3).mono ?_; rintro e w4 ⟨v4, rfl, ho4, hb4⟩; obtain ⟨y4, q4, rfl⟩ := ho4.shape; have hw4 := hw3.trans (hb4.mono hw3.size))
        | (go_at_call 47; with_reducible refine (J6.out _ hw4).mono ?_; rintro e w5 ⟨v5, rfl, ho5, hb5⟩; obtain ⟨y5, q5, rfl⟩ := ho5.shape))
      go_ret
      exact ⟨_, rfl, by rw [HF.out]; exact ⟨rfl, .inl ⟨rfl, rfl⟩⟩, hw2⟩
    | true =>
      replace HCL := Lib.hid (HCL.out rfl)
      cases x3 with
      | false =>
        clear HCL
        have HF := Lib.hid (show planP L m al want = [] from if_neg (by rw [hf]; simp))
        have J1 := Lib.hid j1; have J2 := Lib.hid j2; have J3 := Lib.hid j3; have J5 := Lib.hid j5; have J6 := Lib.hid j6
        clear hf j1 j2 j3 j5 j6
        go_enter Try.func13, Try.ntmps13
        go_wp2_with (first
          | (go_at_call 32; with_reducible refine (J1.out).mono ?_; rintro e w1 ⟨rfl, hb1⟩)
          | (go_at_call 45; first | (with_reducible refine (J2.out _ hb1).mono ?_; rintro e w2 ⟨rfl, hb2⟩; have hw2 := hb1.trans (hb2.mono hb1.size)) | (with_reducible refine (J3.out _ hw2).mono ?_; rintro e w3 ⟨rfl, hb3⟩; have hw3 := hw2.trans (hb3.mono hw2.size)))
          | (go_at_call 46; with_reducible refine (J5.out _ hw3).mono ?_; rintro e w4 ⟨v4, rfl, ho4, hb4⟩; obtain ⟨y4, q4, rfl⟩ := ho4.shape; have hw4 := hw3.trans (hb4.mono hw3.size))
          | (go_at_call 47; with_reducible refine (J6.out _ hw4).mono ?_; rintro e w5 ⟨v5, rfl, ho5, hb5⟩; obtain ⟨y5, q5, rfl⟩ := ho5.shape))
        go_ret
        exact ⟨_, rfl, by rw [HF.out]; exact ⟨rfl, .inl ⟨rfl, rfl⟩⟩, hw3⟩
      | true =>
        by_cases h0 : 0 ≤ want
        · by_cases h5 : want ≤ 5
          · have HP := Lib.hid (show planP L m al want = fromP L (outP al 5) want (common m al) from if_pos (by rw [hf, decide_eq_true ⟨h0, h5⟩]; rfl))
            have J1 := Lib.hid j1; have J2 := Lib.hid j2; have J3 := Lib.hid j3; have J5 := Lib.hid j5; have J6 := Lib.hid j6
            obtain ⟨n, rfl⟩ := Int.eq_ofNat_of_zero_le h0
            have hn : n ≤ 5 := by omega
            have t0 : decide ((n : Int) < 0) = false := decide_eq_false (by omega)
            have t5 : decide ((5 : Int) < (n : Int)) = false := decide_eq_false (by omega)
            have t5' : decide (5 < n) = false := decide_eq_false (by omega)
            clear hf j1 j2 j3 j5 j6 h0 h5
            go_enter Try.func13, Try.ntmps13
            go_wp2_with (first
              | (go_at_call 32; with_reducible refine (J1.out).mono ?_; rintro e w1 ⟨rfl, hb1⟩)
              | (go_at_call 45; first | (with_reducible refine (J2.out _ hb1).mono ?_; rintro e w2 ⟨rfl, hb2⟩; have hw2 := hb1.trans (hb2.mono hb1.size)) | (with_reducible refine (J3.out _ hw2).mono ?_; rintro e w3 ⟨rfl, hb3⟩; have hw3 := hw2.trans (hb3.mono hw2.size)))
              | (go_at_call 46; with_reducible refine (J5.out _ hw3).mono ?_; rintro e w4 ⟨v4, rfl, ho4, hb4⟩; obtain ⟨y4, q4, rfl⟩ := ho4.shape; have hw4 := hw3.trans (hb4.mono hw3.size))
              | (go_at_call 47; with_reducible refine (J6.out _ hw4).mono ?_; rintro e w5 ⟨v5, rfl, ho5, hb5⟩; obtain ⟨y5, q5, rfl⟩ := ho5.shape))
            have HB := Lib.hid (hw4.trans (hb5.mono hw4.size))
            replace HA := Lib.hid (HA.out.later HB.out)
            have HD := Lib.hid ho5
            have HC := Lib.hid ((ho4.later hb5).mono hw3.size)
            have hDl := outP_len al 5
            clear hb1 hb2 hb3 hb4 hb5 hw2 hw3 hw4 ho4 ho5 J1 J2 J3 J5 J6 t0 t5 t5'
            go_loopw [9] (fun v wr => ∃ p : List Int, Hid (fromP L (outP al 5) (n : Int) (common m al) = fromP L (outP al 5) (n : Int) p) ∧ Hid (Asc p) ∧ p.length ≤ 5 ∧ OwnI w.heap.size wr v p ∧ Below w5.heap.size w5 wr) (fun v _ => n - lenP v)
            case atStart => exact ⟨common m al, Lib.hid rfl, Lib.hid (common_asc _ _), HCL.out, HC.out, Below.refl _ _⟩
            case round =>
              obtain ⟨p, HE, HAS, hp5, ho, hb⟩ := hrel
              have HO := Lib.hid ho
              have HBr := Lib.hid hb
              obtain ⟨yp, qp, rfl⟩ := ho.shape
              by_cases hlt : p.length < n
              · have j7 := implPickSpareA a cp L w.heap.size _ p _ _ (outP al 5) wr hl (by omega) (by omega) (HA.out.later hb) ho (HD.out.later hb)
                have t1 : ((p.length : Int) < (n : Int)) := by omega
                by_cases hs : spareP L p (outP al 5) < 0
                · have HF := Lib.hid (show planP L m al (n : Int) = p by rw [HP.out, HE.out, fromP_stop hs])
                  rw [spareP_neg hs] at j7
                  have J7 := Lib.hid j7
                  clear j7 hs ho hb
                  go_wp2_with (go_at_call 24; with_reducible refine (J7.out).mono ?_; rintro e w6 ⟨rfl, hb6⟩)
                  go_ret
                  exact ⟨_, rfl, by rw [HF.out]; exact HO.out.later hb6, HB.out.trans ((HBr.out.trans (hb6.mono HBr.out.size)).mono HB.out.size)⟩
                · have HE2 := Lib.hid (show fromP L (outP al 5) (n : Int) (common m al) = fromP L (outP al 5) (n : Int) (put p (spareP L p (outP al 5))) from HE.out.trans (fromP_step (by omega) hs))
                  have t0 : (spareP L p (outP al 5) == -1) = false := by rw [beq_eq_false_iff_ne]; omega
                  have hlen := put_new (spareP_fresh hs)
                  have HAS2 := Lib.hid (put_asc (spareP L p (outP al 5)) HAS.out)
                  have HU := Lib.hid (unite_one HAS.out (spareP L p (outP al 5)))
                  have J7 := Lib.hid j7
                  clear j7 hs ho hb
                  generalize spareP L p (outP al 5) = s at *
                  generalize put p s = P2 at *
                  have hl2 : P2.length ≤ 5 := by omega
                  have HL2 := Lib.hid hlen
                  have J8 := Lib.hid (fun W (hw : Below wr.heap.size wr W) => implUniteServers w.heap.size _ p w.heap.size _ [s] (W.alloc (.cells #[.int .i64 s] 3)) (by omega) ((HO.out.later hw).later ((Below.refl _ _).alloc (Nat.le_refl _) _)) (by simp) (World.ownsRow_lit W #[.int .i64 s] 1 (Nat.le_trans HB.out.size (Nat.le_trans HBr.out.size hw.size)) (by unfold maxLen; omega) rfl))
                  rw [HU.out] at J8
                  clear hlen
                  go_wp2_with (first | (go_at_call 24; with_reducible refine (J7.out).mono ?_; rintro e w6 ⟨rfl, hb6⟩) | (go_at_call 48; with_reducible refine (J8.out _ hb6).mono ?_; rintro e w7 ⟨v7, rfl, ho7, hb7⟩; obtain ⟨y7, q7, rfl⟩ := ho7.shape))
                  have hz : w.heap.size ≤ w6.heap.size := Nat.le_trans HB.out.size (Nat.le_trans HBr.out.size hb6.size)
                  have hbA : Below w6.heap.size w6 w7 := ((Below.refl w6.heap.size w6).alloc (Nat.le_refl _) _).trans (hb7.mono (by simp))
                  clear J7 J8
                  go_roundw
                  case rel => exact ⟨P2, HE2, HAS2, hl2, ho7.mono (by rw [World.size_alloc]; omega), (HBr.out.trans (hb6.mono HBr.out.size)).trans (hbA.mono (Nat.le_trans HBr.out.size hb6.size))⟩
                  case measure => have := HL2.out; simp [lenP]; omega
              · have HF := Lib.hid (show planP L m al (n : Int) = p by rw [HP.out, HE.out, fromP_done (by omega)])
                have t1 : ¬ ((p.length : Int) < (n : Int)) := by omega
                clear ho hb
                go_wp2_with fail
                go_ret
                exact ⟨_, rfl, by rw [HF.out]; exact HO.out, HB.out.trans (HBr.out.mono HB.out.size)⟩
          · rw [decide_eq_false (fun h => h5 h.2)] at hf
            have t0 : decide (want < 0) = false := decide_eq_false (by omega)
            have t5 : decide (5 < want) = true := decide_eq_true (by omega)
            clear HCL h0 h5
            have HF := Lib.hid (show planP L m al want = [] from if_neg (by rw [hf]; simp))
            have J1 := Lib.hid j1; have J2 := Lib.hid j2; have J3 := Lib.hid j3; have J5 := Lib.hid j5; have J6 := Lib.hid j6
            clear hf j1 j2 j3 j5 j6
            go_enter Try.func13, Try.ntmps13
            go_wp2_with (first
              | (go_at_call 32; with_reducible refine (J1.out).mono ?_; rintro e w1 ⟨rfl, hb1⟩)
              | (go_at_call 45; first | (with_reducible refine (J2.out _ hb1).mono ?_; rintro e w2 ⟨rfl, hb2⟩; have hw2 := hb1.trans (hb2.mono hb1.size)) | (with_reducible refine (J3.out _ hw2).mono ?_; rintro e w3 ⟨rfl, hb3⟩; have hw3 := hw2.trans (hb3.mono hw2.size)))
              | (go_at_call 46; with_reducible refine (J5.out _ hw3).mono ?_; rintro e w4 ⟨v4, rfl, ho4, hb4⟩; obtain ⟨y4, q4, rfl⟩ := ho4.shape; have hw4 := hw3.trans (hb4.mono hw3.size))
              | (go_at_call 47; with_reducible refine (J6.out _ hw4).mono ?_; rintro e w5 ⟨v5, rfl, ho5, hb5⟩; obtain ⟨y5, q5, rfl⟩ := ho5.shape))
            go_ret
            exact ⟨_, rfl, by rw [HF.out]; exact ⟨rfl, .inl ⟨rfl, rfl⟩⟩, hw3⟩
        · rw [decide_eq_false (fun h => h0 h.1)] at hf
          have t0 : decide (want < 0) = true := decide_eq_true (by omega)
          clear HCL h0
          have HF := Lib.hid (show planP L m al want = [] from if_neg (by rw [hf]; simp))
          have J1 := Lib.hid j1; have J2 := Lib.hid j2; have J3 := Lib.hid j3; have J5 := Lib.hid j5; have J6 := Lib.hid j6
          clear hf j1 j2 j3 j5 j6
          go_enter Try.func13, Try.ntmps13
          go_wp2_with (first
            | (go_at_call 32; with_reducible refine (J1.out).mono ?_; rintro e w1 ⟨rfl, hb1⟩)
            | (go_at_call 45; first | (with_reducible refine (J2.out _ hb1).mono ?_; rintro e w2 ⟨rfl, hb2⟩; have hw2 := hb1.trans (hb2.mono hb1.size)) | (with_reducible refine (J3.out _ hw2).mono ?_; rintro e w3 ⟨rfl, hb3⟩; have hw3 := hw2.trans (hb3.mono hw2.size)))
            | (go_at_call 46; with_reducible refine (J5.out _ hw3).mono ?_; rintro e w4 ⟨v4, rfl, ho4, hb4⟩; obtain ⟨y4, q4, rfl⟩ := ho4.shape; have hw4 := hw3.trans (hb4.mono hw3.size))
            | (go_at_call 47; with_reducible refine (J6.out _ hw4).mono ?_; rintro e w5 ⟨v5, rfl, ho5, hb5⟩; obtain ⟨y5, q5, rfl⟩ := ho5.shape))
          go_ret
          exact ⟨_, rfl, by rw [HF.out]; exact ⟨rfl, .inl ⟨rfl, rfl⟩⟩, hw3⟩
theorem implPlanMembers (b1 : Nat) (v1 : Value) (L : List Pla) (b2 : Nat) (v2 : Value) (m : List Int) (b3 : Nat) (v3 : Value) (al : List Int) (want : Int) (w : World) (h1 : L.length ≤ 2097152) (o1 : OwnQ b1 w v1 L) (h2 : m.length ≤ 1048576) (o2 : OwnI b2 w v2 m) (h3 : al.length ≤ 1048576) (o3 : OwnI b3 w v3 al) :
    Calls Try.prog 13 #[v1, v2, v3, .int .i64 want] w fun e w' => ∃ v, e = .returned v ∧ OwnI w.heap.size w' v (planP L m al want) ∧ Below w.heap.size w w' := by
  obtain ⟨a1, c1, rfl, _, _, at1, _⟩ := o1.form
  exact implPlanMembersA a1 c1 L b2 v2 m b3 v3 al want w h1 h2 h3 at1 o2 o3
end Go.Proofs.Ytpdpejlcilnafaa.kit
