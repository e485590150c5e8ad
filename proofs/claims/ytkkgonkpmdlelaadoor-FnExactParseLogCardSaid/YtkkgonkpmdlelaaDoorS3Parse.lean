/-
  Chapter 3: how spec reads an operation, for every string of at most 2^20 bytes.
-/
import Derived.Test.YtkkgonkpmdlelaaDoorS3Cut
import Derived.Test.YtkkgonkpmdlelaaDoorKept
import Derived.Deep.RegionHeld3
import Derived.Deep.DrawnRows
namespace Go.Proofs.YtkkgonkpmdlelaaDoor.kit
open Go.ChangeShapes Go.WideShapes Go.ChangeAt Go.RowKit
set_option linter.unusedVariables false
attribute [local go_sem ↓] Go.wp_at_zero Go.wp_at_succ

abbrev opT (t : Int × Int × Int × Int × Int × Int) : Value := opV t.1 t.2.1 t.2.2.1 t.2.2.2.1 t.2.2.2.2.1 t.2.2.2.2.2
set_option maxRecDepth 100000 in
set_option maxHeartbeats 8000000 in
theorem specParseOp_unfit (s : ByteArray) (w : World) (hs : s.size ≤ 1048576) (hf : fitP s.data.toList = false) :
    Calls Tryd.prog 53 #[.string s] w fun e w' => e = .returned (.tuple #[opT (0, 0, 0, 0, 0, 0), .bool false]) ∧ Below w.heap.size w w' := by
  have hl : s.data.toList.length = s.size := by rw [Array.length_toList]; rfl
  have hp0 := List.length_pos_iff.2 (cuts_ne 32 s.data.toList)
  have hd := cuts_getD (x := 32) (l := s.data.toList) 0
  rw [hl] at hd
  unfold fitP at hf
  generalize hps : cuts 32 s.data.toList = ps at *
  generalize hp : ps.getD 0 [] = p0 at *
  generalize hhs : cuts 46 p0 = qs at *
  have HP0 := Lib.hid hp
  have HP := Lib.hid hps
  have HQ := Lib.hid hhs
  clear hps hhs hl hp
  obtain ⟨WB, hWB⟩ : ∃ W, W = w.alloc (.cells #[.int .i64 0, .int .i64 0, .int .i64 0, .int .i64 0, .int .i64 0, .int .i64 0] 80) := ⟨_, rfl⟩
  have hz : w.heap.size + 1 ≤ WB.heap.size := by rw [hWB]; simp
  have hA : Below w.heap.size w WB := by rw [hWB]; exact (Below.refl _ _).alloc (Nat.le_refl _) _
  have HWB := Lib.hid hWB
  go_enter Tryd.func53, Tryd.ntmps53
  go_wp2_with fail
  refine (cutEvery s 32 32 rfl _ hs).mono ?_
  rintro e w1 ⟨v, rfl, ho, hb⟩
  rw [HP.out] at ho
  rw [← HWB.out] at ho hb
  obtain ⟨g, cap, rfl, hn, hm, hg, hgl, hcell⟩ := strs_there ho hp0
  have c0 := hcell 0 hp0
  rw [HP0.out] at c0
  unfold maxLen at hm
  clear hcell ho
  go_wp2_with fail
  refine (cutEvery ⟨p0.toArray⟩ 46 46 rfl _ (by rw [size_mk]; omega)).mono ?_
  rintro e w2 ⟨v, rfl, ho, hb2⟩
  rw [HQ.out] at ho
  have hq0 : 0 < qs.length := List.length_pos_iff.2 (by rw [← HQ.out]; exact cuts_ne _ _)
  obtain ⟨g2, cap2, rfl, hn2, hm2, hg2, hgl2, hcell2⟩ := strs_there ho hq0
  unfold maxLen at hm2
  clear hcell2 ho
  have hW2 := (hb.mono hz).trans (hb2.mono (Nat.le_trans hz hb.size))
  have hcc := fun b o h => hW2.cell (p := ⟨b, o, none⟩) h
  have hff := fun b o h => hW2.frozen (p := ⟨b, o, none⟩) h
  by_cases h4 : ps.length < 4
  · have g1 : decide ((ps.length : Int) < 4) = true := by simp; omega
    clear hf
    go_wp2_with fail
    exact bodyPost_ret (v := .tuple #[opT (0, 0, 0, 0, 0, 0), .bool false]) (by simp [results, Tryd.results53, go_sem, hcc, hWB]) rfl ⟨rfl, ((((((hA.trans (hW2.mono (Nat.le_succ _))).setCell (Nat.le_refl _) _).setCell (Nat.le_refl _) _).setCell (Nat.le_refl _) _).setCell (Nat.le_refl _) _).setCell (Nat.le_refl _) _).setCell (Nat.le_refl _) _⟩
  · have h2 : ¬ qs.length = 2 := by intro e; rw [decide_eq_false h4, decide_eq_true e] at hf; cases hf
    have g1 : decide ((ps.length : Int) < 4) = false := by simp; omega
    have g2 : ((qs.length : Int) != 2) = true := by rw [bne_iff_ne]; omega
    clear hf
    go_wp2_with fail
    exact bodyPost_ret (v := .tuple #[opT (0, 0, 0, 0, 0, 0), .bool false]) (by simp [results, Tryd.results53, go_sem, hcc, hWB]) rfl ⟨rfl, ((((((hA.trans (hW2.mono (Nat.le_succ _))).setCell (Nat.le_refl _) _).setCell (Nat.le_refl _) _).setCell (Nat.le_refl _) _).setCell (Nat.le_refl _) _).setCell (Nat.le_refl _) _).setCell (Nat.le_refl _) _⟩
theorem numFromL (q : List UInt8) (w : World) (h : q.length ≤ 1048576) : Calls Tryd.prog 54 #[str q] w fun e w' => e = .returned (.int .i64 (numL q)) ∧ Below w.heap.size w w' := by
  have := numFrom ⟨q.toArray⟩ w (by rw [size_mk]; exact h)
  simpa using this
set_option maxRecDepth 100000 in
set_option maxHeartbeats 8000000 in
theorem specParseOp_fit (s : ByteArray) (w : World) (hs : s.size ≤ 1048576) (hf : fitP s.data.toList = true) :
    Calls Tryd.prog 53 #[.string s] w fun e w' => e = .returned (.tuple #[opT (parO s.data.toList), .bool (parOok s.data.toList)]) ∧ Below w.heap.size w w' := by
  have hl : s.data.toList.length = s.size := by rw [Array.length_toList]; rfl
  have HR := Lib.hid (show parOok s.data.toList = decide (fmtT (rawO s.data.toList) = s.data.toList) by unfold parOok; rw [hf]; rfl)
  have HO := Lib.hid (show parO s.data.toList = if parOok s.data.toList then rawO s.data.toList else (0, 0, 0, 0, 0, 0) from rfl)
  have hd := fun j => cuts_getD (x := 32) (l := s.data.toList) j
  have HW : Hid (rawO s.data.toList = opOf (cuts 32 s.data.toList) (cuts 46 ((cuts 32 s.data.toList).getD 0 []))) := Lib.hid rfl
  have hd' := fun j => cuts_getD (x := 46) (l := (cuts 32 s.data.toList).getD 0 []) j
  simp only [hl] at hd
  unfold fitP at hf
  rw [Bool.and_eq_true, Bool.not_eq_true', decide_eq_false_iff_not, decide_eq_true_iff] at hf
  generalize parO s.data.toList = pO at *
  generalize parOok s.data.toList = pK at *
  generalize rawO s.data.toList = rO at *
  generalize hps : cuts 32 s.data.toList = ps at *
  have hd0 := hd 0
  generalize hp : ps.getD 0 [] = p0 at *
  generalize hhs : cuts 46 p0 = qs at *
  obtain ⟨h4, h2⟩ := hf
  have hp0 : 0 < ps.length := by omega
  have HP0 := Lib.hid hp
  have HP := Lib.hid hps
  have HQ := Lib.hid hhs
  clear hps hhs hl hp
  have hd1 := hd 1
  have hd2 := hd 2
  have hd3 := hd 3
  have hdl := hd (ps.length - 1)
  have hq0 := hd' 0
  have hq1 := hd' 1
  clear hd hd'
  generalize hp1 : ps.getD 1 [] = p1 at hd1
  generalize hp2 : ps.getD 2 [] = p2 at hd2
  generalize hp3 : ps.getD 3 [] = p3 at hd3
  generalize hpl : ps.getD (ps.length - 1) [] = pl at hdl
  obtain ⟨q0, q1, rfl⟩ : ∃ q0 q1, qs = [q0, q1] := by
    match qs, h2 with
    | [a, b], _ => exact ⟨a, b, rfl⟩
  simp only [List.getD_cons_zero, List.getD_cons_succ] at hq0 hq1
  clear h2
  have HP1 := Lib.hid hp1
  have HP2 := Lib.hid hp2
  have HP3 := Lib.hid hp3
  have HPL := Lib.hid hpl
  clear hp1 hp2 hp3 hpl
  obtain ⟨WB, hWB⟩ : ∃ W, W = w.alloc (.cells #[.int .i64 0, .int .i64 0, .int .i64 0, .int .i64 0, .int .i64 0, .int .i64 0] 80) := ⟨_, rfl⟩
  have hz : w.heap.size + 1 ≤ WB.heap.size := by rw [hWB]; simp
  have hA : Below w.heap.size w WB := by rw [hWB]; exact (Below.refl _ _).alloc (Nat.le_refl _) _
  have HWB := Lib.hid hWB
  go_enter Tryd.func53, Tryd.ntmps53
  go_wp2_with fail
  refine (cutEvery s 32 32 rfl _ hs).mono ?_
  rintro e w1 ⟨v, rfl, ho, hb⟩
  rw [HP.out] at ho
  rw [← HWB.out] at ho hb
  obtain ⟨g, cap, rfl, hn, hm, hg, hgl, hcell⟩ := strs_there ho hp0
  have c0 := hcell 0 hp0
  rw [HP0.out] at c0
  have k1 := hcell 1 (by omega)
  have k2 := hcell 2 (by omega)
  have k3 := hcell 3 (by omega)
  have kl := hcell (ps.length - 1) (by omega)
  rw [HP1.out] at k1
  rw [HP2.out] at k2
  rw [HP3.out] at k3
  rw [HPL.out] at kl
  have K1 := Lib.hid k1
  have K2 := Lib.hid k2
  have K3 := Lib.hid k3
  have KL := Lib.hid kl
  unfold maxLen at hm
  clear hcell ho k1 k2 k3 kl
  go_wp2_with fail
  refine (cutEvery ⟨p0.toArray⟩ 46 46 rfl _ (by rw [size_mk]; omega)).mono ?_
  rintro e w2 ⟨v, rfl, ho, hb2⟩
  rw [HQ.out] at ho
  obtain ⟨g2, cap2, rfl, hn2, hm2, hg2, hgl2, hcell2⟩ : ∃ g2 cap2, v = .slice (some ⟨g2, 0, none⟩) 2 cap2 ∧ 2 ≤ cap2 ∧ cap2 ≤ maxLen ∧ w1.heap.size ≤ g2 ∧ g2 < w2.heap.size ∧ ∀ j, j < 2 → w2.cell? ⟨g2, j, none⟩ = some (str ([q0, q1].getD j [])) := strs_there ho (by simp)
  have j0 : w2.cell? ⟨g2, 0, none⟩ = some (str q0) := hcell2 0 (by omega)
  have j1 : w2.cell? ⟨g2, 1, none⟩ = some (str q1) := hcell2 1 (by omega)
  unfold maxLen at hm2
  clear hcell2 ho
  have hW2 := (hb.mono hz).trans (hb2.mono (Nat.le_trans hz hb.size))
  obtain ⟨W0, HW0⟩ : ∃ W, Hid (W = w2) := ⟨_, Lib.hid rfl⟩
  have hz2 : W0.heap.size ≤ W0.heap.size := Nat.le_refl _
  have hk : Below W0.heap.size W0 w2 ∧ (∀ b o, b < W0.heap.size → w2.cell? ⟨b, o, none⟩ = W0.cell? ⟨b, o, none⟩) := by rw [← HW0.out]; exact kept_of (Below.refl _ _)
  have k1 := (hb2.cell (p := ⟨g, 1, none⟩) hgl).trans K1.out
  have k2 := (hb2.cell (p := ⟨g, 2, none⟩) hgl).trans K2.out
  have k3 := (hb2.cell (p := ⟨g, 3, none⟩) hgl).trans K3.out
  have kl := (hb2.cell (p := ⟨g, ps.length - 1, none⟩) hgl).trans KL.out
  have hgw : g < w2.heap.size := Nat.lt_of_lt_of_le hgl hb2.size
  clear c0 K1 K2 K3 KL
  have f1 : decide ((ps.length : Int) < 4) = false := by simp; omega
  have f3 : IntKind.i64.wrap ((ps.length : Int) - 1) = (ps.length : Int) - 1 := IntWalk.i64_in _ (by omega)
  have f4 : (0 : Int) ≤ (ps.length : Int) - 1 := by omega
  have f5 : ((ps.length : Int) - 1).toNat = ps.length - 1 := by omega
  have f6 : (ps.length : Int) - 1 < (ps.length : Int) := by omega
  have f10 : (1 : Int) ≤ (ps.length : Int) := by omega
  have f7 : (2 : Int) < (ps.length : Int) := by omega
  rw [← HW0.out] at k1 k2 k3 kl hgw hgl2 j0 j1
  have hcc := hk.2
  have hy := Lib.hid hk.1.size
  go_upto_region 5 with (fail)
  go_cut [6] (fun p wx => ∃ b, p = .pointer (some ⟨b, 0, none⟩) ∧ W0.heap.size ≤ b ∧ Below W0.heap.size W0 wx ∧ OpAt wx b (numL q0) (numL q1) 0 (numL p2) 0 (numL pl))
  case first =>
    rename_i J K2 hJ hM
    clear hcc
    go_region_held3 (fun w' => Below W0.heap.size W0 w' ∧ (∀ b o, b < W0.heap.size → w'.cell? ⟨b, o, none⟩ = W0.cell? ⟨b, o, none⟩)) (first | (with_reducible assumption) | ((with_reducible refine kept_drew ?_); with_reducible assumption) | ((with_reducible refine kept_alloc ?_ hz2 _); with_reducible assumption) | ((with_reducible refine kept_drew ?_); (with_reducible refine kept_alloc ?_ hz2 _); with_reducible assumption) | ((with_reducible refine kept_next (w := ?_) ?_ ?_ hz2); rotate_left; with_reducible assumption; with_reducible assumption) | ((with_reducible refine kept_store (x := ?_) ?_ ?_ _); rotate_left; with_reducible assumption; with_reducible assumption) | ((with_reducible refine kept_set ?_ ?_ _ _ _ _ _ _) <;> with_reducible assumption))
      (first | (go_at_call 54; refine (numFromL _ _ (by omega)).mono ?_; rintro e w3 ⟨rfl, hb3⟩; have hy := Lib.hid (kept_size (by with_reducible assumption) hb3 hz2); (first | have hq := OpAt.later (show OpAt _ _ 0 0 0 0 0 0 by with_reducible assumption) hb3 | have hq := OpAt.later (OpAt.alloc _) hb3 | have hq := OpAt.later (OpAt.alloc _).drew hb3 | skip); (first | (have hq' := hq; obtain ⟨z0, z1, z2, z3, z4, z5, y0, y1, y2, y3, y4, y5⟩ := hq') | skip)))
    all_goals
      rename_i hS
      clear f1 f3 f4 f5 f6 f7 f10 k1 k2 k3 kl j0 j1 hk hb hb2 hW2 hm hm2 hn hn2 hWB
      have HS := Lib.hid hS
      clear hS
      refine hM _ _ ?_
      refine Met.intro ?_
      go_step
      (repeat apply Exists.intro)
      refine ⟨?_, rfl⟩
      refine ⟨_, rfl, Hid.out (by with_reducible assumption), HS.out.1, ?_⟩
      first
        | (with_reducible exact OpAt.alloc _)
        | ((with_reducible refine OpAt.store (c := 0) (s := 0) (k := 0) (o := 0) (d := 0) (v := 0) ?_ _ _ _ _ _ _); with_reducible assumption)
  case rest =>
    obtain ⟨b, rfl, hb0, hB, hOp⟩ := hcut
    have k1c := (hB.cell (p := ⟨g, 1, none⟩) hgw).trans k1
    have k3c := (hB.cell (p := ⟨g, 3, none⟩) hgw).trans k3
    have f7 : (1 : Int) < (ps.length : Int) := by omega
    have f8 : (3 : Int) < (ps.length : Int) := by omega
    have hW6 : Below (w.heap.size + 1) WB wc := hW2.trans (by rw [← HW0.out]; exact hB.mono (Nat.le_trans hz (Nat.le_trans hW2.size (by rw [HW0.out]; exact Nat.le_refl _))))
    have hbB : w.heap.size + 1 ≤ b := Nat.le_trans hz (Nat.le_trans (Nat.le_trans hW2.size (by rw [HW0.out]; exact Nat.le_refl _)) hb0)
    have hz6 : w.heap.size + 1 ≤ wc.heap.size := Nat.le_trans hz hW6.size
    clear f1 f3 f4 f5 f6 f10 k1 k2 k3 kl j0 j1 hcc hk
    have HOp := Lib.hid hOp
    obtain ⟨z0, z1, z2, z3, z4, z5, y0, y1, y2, y3, y4, y5⟩ := hOp
    by_cases hw : p1 = wW
    · have hr : Hid (rO = (numL q0, numL q1, 1, numL p2, 0, numL pl)) := Lib.hid (by rw [HW.out]; unfold opOf; rw [HP1.out, if_pos hw, if_pos hw, HP2.out, HPL.out]; rfl)
      subst hw
      unfold wW at k1c
      have HO7 := HOp.out.setKind 1
      have hW7 := hW6.setCell (p := ⟨b, 2, none⟩) hbB (.int .i64 1)
      have hz7 : w.heap.size + 1 ≤ (wc.setCell ⟨b, 2, none⟩ (.int .i64 1)).heap.size := Nat.le_trans hz hW7.size
      go_wp2_with fail
      refine (specFormatOp _ _ _ _ _ _ _).mono ?_
      generalize hx : fmtO (numL q0) (numL q1) 1 (numL p2) 0 (numL pl) = x
      rintro e w8 ⟨rfl, hb8⟩
      have HX : Hid (fmtT rO = x) := Lib.hid (by rw [hr.out]; exact hx)
      clear hx
      obtain ⟨z0, z1, z2, z3, z4, z5, y0, y1, y2, y3, y4, y5⟩ := OpAt.later HO7 hb8
      have hW8 := hW7.trans (hb8.mono hz7)
      have hcc := fun b o h => hW8.cell (p := ⟨b, o, none⟩) h
      have hff := fun b o h => hW8.frozen (p := ⟨b, o, none⟩) h
      have hb9 : w.heap.size < b := Nat.lt_of_lt_of_le hz (Nat.le_trans (Nat.le_trans hW2.size (by rw [HW0.out]; exact Nat.le_refl _)) hb0)
      by_cases he : x = s.data.toList
      · have g1 : (x == s.toList) = true := by rw [ByteArray.toList_eq, he]; simp
        have HK : Hid (pK = true) := Lib.hid (by rw [HR.out, HX.out]; exact decide_eq_true he)
        have HV : Hid (pO = (numL q0, numL q1, 1, numL p2, 0, numL pl)) := Lib.hid (by rw [HO.out, HK.out, if_pos rfl, hr.out])
        clear he
        go_wp2_with fail
        exact bodyPost_ret (v := .tuple #[opV (numL q0) (numL q1) (1) (numL p2) (0) (numL pl), .bool true]) (by simp [results, Tryd.results53, go_sem, hcc, hWB]) rfl
          ⟨by rw [HK.out, HV.out], ((((((hA.trans (hW8.mono (Nat.le_succ _))).setCell (Nat.le_refl _) _).setCell (Nat.le_refl _) _).setCell (Nat.le_refl _) _).setCell (Nat.le_refl _) _).setCell (Nat.le_refl _) _).setCell (Nat.le_refl _) _⟩
      · have g1 : (x == s.toList) = false := by rw [ByteArray.toList_eq]; simpa using he
        have HK : Hid (pK = false) := Lib.hid (by rw [HR.out, HX.out]; exact decide_eq_false he)
        have HV : Hid (pO = (0, 0, 0, 0, 0, 0)) := Lib.hid (by rw [HO.out, HK.out]; rfl)
        clear he
        go_wp2_with fail
        exact bodyPost_ret (v := .tuple #[opV 0 0 0 0 0 0, .bool false]) (by simp [results, Tryd.results53, go_sem, hcc, hWB]) rfl
          ⟨by rw [HK.out, HV.out], ((((((hA.trans (hW8.mono (Nat.le_succ _))).setCell (Nat.le_refl _) _).setCell (Nat.le_refl _) _).setCell (Nat.le_refl _) _).setCell (Nat.le_refl _) _).setCell (Nat.le_refl _) _).setCell (Nat.le_refl _) _⟩
    · have n1 : (p1 == wW) = false := by simpa using hw
      by_cases hsw : p1 = wS
      · have hr : Hid (rO = (numL q0, numL q1, 2, numL p2, numL p3, numL pl)) := Lib.hid (by rw [HW.out]; unfold opOf; rw [HP1.out, if_neg hw, if_neg hw, if_pos hsw, if_pos hsw, HP2.out, HP3.out, HPL.out]; rfl)
        subst hsw
        unfold wS at k1c
        clear hw n1
        have hW7 := hW6.setCell (p := ⟨b, 2, none⟩) hbB (.int .i64 2)
        go_wp2_with fail
        refine (numFromL _ _ (by omega)).mono ?_
        rintro e w7 ⟨rfl, hb7⟩
        obtain ⟨x0, x1, x2, x3, x4, x5, v0, v1, v2, v3, v4, v5⟩ := OpAt.later (HOp.out.setKind 2) hb7
        have HO7 := (OpAt.later (HOp.out.setKind 2) hb7).setOld (numL p3)
        replace hW7 := (hW7.trans (hb7.mono (by simpa using hz6))).setCell (p := ⟨b, 4, none⟩) hbB (.int .i64 (numL p3))
        have hz7 : w.heap.size + 1 ≤ (w7.setCell ⟨b, 4, none⟩ (.int .i64 (numL p3))).heap.size := Nat.le_trans hz hW7.size
        go_wp2_with fail
        refine (specFormatOp _ _ _ _ _ _ _).mono ?_
        generalize hx : fmtO (numL q0) (numL q1) 2 (numL p2) (numL p3) (numL pl) = x
        rintro e w8 ⟨rfl, hb8⟩
        have HX : Hid (fmtT rO = x) := Lib.hid (by rw [hr.out]; exact hx)
        clear hx
        obtain ⟨z0, z1, z2, z3, z4, z5, y0, y1, y2, y3, y4, y5⟩ := OpAt.later HO7 hb8
        have hW8 := hW7.trans (hb8.mono hz7)
        have hcc := fun b o h => hW8.cell (p := ⟨b, o, none⟩) h
        have hff := fun b o h => hW8.frozen (p := ⟨b, o, none⟩) h
        have hb9 : w.heap.size < b := Nat.lt_of_lt_of_le hz (Nat.le_trans (Nat.le_trans hW2.size (by rw [HW0.out]; exact Nat.le_refl _)) hb0)
        by_cases he : x = s.data.toList
        · have g1 : (x == s.toList) = true := by rw [ByteArray.toList_eq, he]; simp
          have HK : Hid (pK = true) := Lib.hid (by rw [HR.out, HX.out]; exact decide_eq_true he)
          have HV : Hid (pO = (numL q0, numL q1, 2, numL p2, (numL p3), numL pl)) := Lib.hid (by rw [HO.out, HK.out, if_pos rfl, hr.out])
          clear he
          go_wp2_with fail
          exact bodyPost_ret (v := .tuple #[opV (numL q0) (numL q1) (2) (numL p2) ((numL p3)) (numL pl), .bool true]) (by simp [results, Tryd.results53, go_sem, hcc, hWB]) rfl
            ⟨by rw [HK.out, HV.out], ((((((hA.trans (hW8.mono (Nat.le_succ _))).setCell (Nat.le_refl _) _).setCell (Nat.le_refl _) _).setCell (Nat.le_refl _) _).setCell (Nat.le_refl _) _).setCell (Nat.le_refl _) _).setCell (Nat.le_refl _) _⟩
        · have g1 : (x == s.toList) = false := by rw [ByteArray.toList_eq]; simpa using he
          have HK : Hid (pK = false) := Lib.hid (by rw [HR.out, HX.out]; exact decide_eq_false he)
          have HV : Hid (pO = (0, 0, 0, 0, 0, 0)) := Lib.hid (by rw [HO.out, HK.out]; rfl)
          clear he
          go_wp2_with fail
          exact bodyPost_ret (v := .tuple #[opV 0 0 0 0 0 0, .bool false]) (by simp [results, Tryd.results53, go_sem, hcc, hWB]) rfl
            ⟨by rw [HK.out, HV.out], ((((((hA.trans (hW8.mono (Nat.le_succ _))).setCell (Nat.le_refl _) _).setCell (Nat.le_refl _) _).setCell (Nat.le_refl _) _).setCell (Nat.le_refl _) _).setCell (Nat.le_refl _) _).setCell (Nat.le_refl _) _⟩
      · have hr : Hid (rO = (numL q0, numL q1, 0, numL p2, 0, numL pl)) := Lib.hid (by rw [HW.out]; unfold opOf; rw [HP1.out, if_neg hw, if_neg hw, if_neg hsw, if_neg hsw, HP2.out, HPL.out]; rfl)
        have n2 : (p1 == wS) = false := by simpa using hsw
        unfold wW at n1
        unfold wS at n2
        clear hw hsw
        have HO7 := HOp.out
        have hW7 := hW6
        have hz7 := hz6
        go_wp2_with fail
        refine (specFormatOp _ _ _ _ _ _ _).mono ?_
        generalize hx : fmtO (numL q0) (numL q1) 0 (numL p2) 0 (numL pl) = x
        rintro e w8 ⟨rfl, hb8⟩
        have HX : Hid (fmtT rO = x) := Lib.hid (by rw [hr.out]; exact hx)
        clear hx
        obtain ⟨z0, z1, z2, z3, z4, z5, y0, y1, y2, y3, y4, y5⟩ := OpAt.later HO7 hb8
        have hW8 := hW7.trans (hb8.mono hz7)
        have hcc := fun b o h => hW8.cell (p := ⟨b, o, none⟩) h
        have hff := fun b o h => hW8.frozen (p := ⟨b, o, none⟩) h
        have hb9 : w.heap.size < b := Nat.lt_of_lt_of_le hz (Nat.le_trans (Nat.le_trans hW2.size (by rw [HW0.out]; exact Nat.le_refl _)) hb0)
        by_cases he : x = s.data.toList
        · have g1 : (x == s.toList) = true := by rw [ByteArray.toList_eq, he]; simp
          have HK : Hid (pK = true) := Lib.hid (by rw [HR.out, HX.out]; exact decide_eq_true he)
          have HV : Hid (pO = (numL q0, numL q1, 0, numL p2, 0, numL pl)) := Lib.hid (by rw [HO.out, HK.out, if_pos rfl, hr.out])
          clear he
          go_wp2_with fail
          exact bodyPost_ret (v := .tuple #[opV (numL q0) (numL q1) (0) (numL p2) (0) (numL pl), .bool true]) (by simp [results, Tryd.results53, go_sem, hcc, hWB]) rfl
            ⟨by rw [HK.out, HV.out], ((((((hA.trans (hW8.mono (Nat.le_succ _))).setCell (Nat.le_refl _) _).setCell (Nat.le_refl _) _).setCell (Nat.le_refl _) _).setCell (Nat.le_refl _) _).setCell (Nat.le_refl _) _).setCell (Nat.le_refl _) _⟩
        · have g1 : (x == s.toList) = false := by rw [ByteArray.toList_eq]; simpa using he
          have HK : Hid (pK = false) := Lib.hid (by rw [HR.out, HX.out]; exact decide_eq_false he)
          have HV : Hid (pO = (0, 0, 0, 0, 0, 0)) := Lib.hid (by rw [HO.out, HK.out]; rfl)
          clear he
          go_wp2_with fail
          exact bodyPost_ret (v := .tuple #[opV 0 0 0 0 0 0, .bool false]) (by simp [results, Tryd.results53, go_sem, hcc, hWB]) rfl
            ⟨by rw [HK.out, HV.out], ((((((hA.trans (hW8.mono (Nat.le_succ _))).setCell (Nat.le_refl _) _).setCell (Nat.le_refl _) _).setCell (Nat.le_refl _) _).setCell (Nat.le_refl _) _).setCell (Nat.le_refl _) _).setCell (Nat.le_refl _) _⟩
theorem specParseOp (s : ByteArray) (w : World) (hs : s.size ≤ 1048576) :
    Calls Tryd.prog 53 #[.string s] w fun e w' => e = .returned (.tuple #[opT (parO s.data.toList), .bool (parOok s.data.toList)]) ∧ Below w.heap.size w w' := by
  cases hf : fitP s.data.toList with
  | true => exact specParseOp_fit s w hs hf
  | false =>
    have h1 : parOok s.data.toList = false := by unfold parOok; rw [hf]; rfl
    have h2 : parO s.data.toList = (0, 0, 0, 0, 0, 0) := by unfold parO; rw [h1]; rfl
    rw [h1, h2]
    exact specParseOp_unfit s w hs hf
end Go.Proofs.YtkkgonkpmdlelaaDoor.kit
