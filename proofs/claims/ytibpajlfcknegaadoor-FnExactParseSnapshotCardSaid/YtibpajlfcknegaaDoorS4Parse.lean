/-
  Chapter 4: what spec's ParseMachine returns.
-/
import Derived.Test.YtibpajlfcknegaaDoorS4Math
import Derived.Test.YtibpajlfcknegaaDoorS3Cut
import Derived.Test.YtibpajlfcknegaaDoorS4Rows
import Derived.Test.YtibpajlfcknegaaDoorParts
import Derived.Test.YtibpajlfcknegaaDoorInvT
namespace Go.Proofs.YtibpajlfcknegaaDoor.kit
open Go.ChangeShapes Go.WideShapes Go.ChangeAt Go.RowKit
set_option linter.unusedVariables false
set_option linter.unusedSimpArgs false

set_option maxRecDepth 100000 in
set_option maxHeartbeats 8000000 in
theorem specL4Session (s : ByteArray) (w : World) (hs : s.size ≤ 1048576) :
    Calls Tryd.prog 24 #[.string s] w fun e w' => e = .returned (sessV (looseX s.data.toList)) ∧ Below w.heap.size w w' := by
  have hl : s.data.toList.length = s.size := by rw [Array.length_toList]; rfl
  by_cases h5 : s.size < 5
  · have HF := Lib.hid (show looseX s.data.toList = (-1, 0, false, 0) by unfold looseX; rw [hl, if_pos (.inl h5)])
    have g0 : decide (s.size < 5) = true := decide_eq_true h5
    clear hl
    go_enter Tryd.func24, Tryd.ntmps24
    go_wp2_with fail
    refine bodyPost_ret (v := sessV (-1, 0, false, 0)) (by simp [results, Tryd.results24, go_sem]) rfl ?_
    refine ⟨by rw [HF.out], ?_⟩
    exact ((Below.refl w.heap.size w).alloc (Nat.le_refl _) _).alloc (by simp) _
  · have h51 : 1 < s.size := by omega
    by_cases hb : s[1] = 46
    · have hn1 : s.size - 1 < s.size := by omega
      have hn2 : s.size - 2 < s.size := by omega
      have h50 : 0 < s.size := by omega
      have HF := Lib.hid (show looseX s.data.toList = ((s[0].toNat : Int) - 48, numL ((s.data.toList.drop 2).take (s.size - 4)), s[s.size - 2] == 43, (s[s.size - 1].toNat : Int) - 48) by
        unfold looseX
        rw [hl, getD_at h51, getD_at h50, getD_at hn1, getD_at hn2, if_neg (by rw [hb]; simp; omega)]
        rfl)
      have g0 : decide (s.size < 5) = false := decide_eq_false h5
      have g1 : ((s[1].toNat : Int) != 46) = false := by rw [hb]; rfl
      have HX := Lib.hid (show Value.string (s.extract 2 (s.size - 2)) = str ((s.data.toList.drop 2).take (s.size - 4)) by rw [ext_str, Nat.sub_sub])
      have b0 : s[0].toNat < 256 := s[0].toNat_lt
      have b1 : s[s.size - 1].toNat < 256 := s[s.size - 1].toNat_lt
      have b2 : s[s.size - 2].toNat < 256 := s[s.size - 2].toNat_lt
      have i1 : ((s.size : Int) - 2).toNat = s.size - 2 := by omega
      have i2 : ((s.size : Int) - 1).toNat = s.size - 1 := by omega
      have i3 : (0 : Int) ≤ (s.size : Int) - 2 := by omega
      have i4 : (0 : Int) ≤ (s.size : Int) - 1 := by omega
      have i5 : (2 : Int) ≤ (s.size : Int) - 2 := by omega
      clear hb hl
      go_enter Tryd.func24, Tryd.ntmps24
      go_wp2_with fail
      rw [HX.out]
      obtain ⟨W, hW⟩ : ∃ W, W = ((w.alloc (.cells #[.int .i64 0, .int .i64 0, .bool false, .int .i64 0] 48)).alloc (.cells #[.int .i64 ((s[0].toNat : Int) - 48), .int .i64 0, .bool false, .int .i64 0] 48)) := ⟨_, rfl⟩
      have hB : Below w.heap.size w W := by rw [hW]; exact ((Below.refl w.heap.size w).alloc (Nat.le_refl _) _).alloc (by simp) _
      have HR := Lib.hid (show BoxC W w.heap.size 48 #[.int .i64 0, .int .i64 0, .bool false, .int .i64 0] by
        rw [hW]
        exact (BoxC.new _ _ _).later ((Below.refl _ _).alloc (Nat.le_refl _) _))
      have HS := Lib.hid (show BoxC W (w.heap.size + 1) 48 #[.int .i64 ((s[0].toNat : Int) - 48), .int .i64 0, .bool false, .int .i64 0] by
        rw [hW]
        have := BoxC.new (w.alloc (.cells #[.int .i64 0, .int .i64 0, .bool false, .int .i64 0] 48)) 48 #[.int .i64 ((s[0].toNat : Int) - 48), .int .i64 0, .bool false, .int .i64 0]
        rwa [World.size_alloc] at this)
      have HB := Lib.hid hB
      rw [← hW]
      have hql : ((s.data.toList.drop 2).take (s.size - 4)).length ≤ 1048576 := by rw [List.length_take]; omega
      clear hW hB
      refine (numFromM _ W hql).mono ?_
      rintro e w2 ⟨rfl, hb⟩
      replace HR := Lib.hid (HR.out.later hb)
      replace HS := Lib.hid (HS.out.later hb)
      replace HB := Lib.hid (HB.out.trans (hb.mono HB.out.size))
      generalize numL ((s.data.toList.drop 2).take (s.size - 4)) = nu at *
      have r0 := HR.out.c 0 rfl
      have r1 := HR.out.c 1 rfl
      have r2 := HR.out.c 2 rfl
      have r3 := HR.out.c 3 rfl
      have f0 := HR.out.f 0
      have f1 := HR.out.f 1
      have f2 := HR.out.f 2
      have f3 := HR.out.f 3
      have s0 := HS.out.c 0 rfl
      have s1 := HS.out.c 1 rfl
      have s2 := HS.out.c 2 rfl
      have s3 := HS.out.c 3 rfl
      have q0 := HS.out.f 0
      have q1 := HS.out.f 1
      have q2 := HS.out.f 2
      have q3 := HS.out.f 3
      have i6 : (s.size : Int) - 2 < (s.size : Int) := by omega
      have i7 : (s.size : Int) - 1 < (s.size : Int) := by omega
      have HD := Lib.hid (show ((s[s.size - 2].toNat : Int) == 43) = (s[s.size - 2] == 43) by
        by_cases e : s[s.size - 2] = 43
        · rw [e]; rfl
        · have h1 : (s[s.size - 2] == 43) = false := by rw [beq_eq_false_iff_ne]; exact e
          rw [h1, beq_eq_false_iff_ne]
          intro e2
          apply e
          apply UInt8.toNat.inj
          have : s[s.size - 2].toNat = 43 := by omega
          rw [this]; rfl)
      have j1 : IntKind.i64.wrap ((s.size : Int) - 2) = (s.size : Int) - 2 := IntWalk.i64_in _ (by omega)
      have j2 : IntKind.i64.wrap ((s.size : Int) - 1) = (s.size : Int) - 1 := IntWalk.i64_in _ (by omega)
      have j3 : IntKind.i64.wrap (s[s.size - 1].toNat : Int) = (s[s.size - 1].toNat : Int) := IntWalk.i64_in _ (by omega)
      have j4 : IntKind.i64.wrap ((s[s.size - 1].toNat : Int) - 48) = (s[s.size - 1].toNat : Int) - 48 := IntWalk.i64_in _ (by omega)
      have i8 : (2 : Int) ≤ (s.size : Int) := by omega
      have i9 : (1 : Int) ≤ (s.size : Int) := by omega
      have ia : 2 ≤ s.size := by omega
      have ib : 1 ≤ s.size := by omega
      clear hb hql HX
      go_wp2_with fail
      go_region
      go_wp2_with fail
      refine bodyPost_ret (v := sessV ((s[0].toNat : Int) - 48, nu, (s[s.size - 2].toNat : Int) == 43, (s[s.size - 1].toNat : Int) - 48)) (by simp [results, Tryd.results24, go_sem, r0, r1, r2, r3]) rfl ?_
      refine ⟨by rw [HF.out, HD.out], ?_⟩
      exact (((((((HB.out.setCell (p := ⟨w.heap.size + 1, 1, none⟩) (Nat.le_succ _) _).setCell (p := ⟨w.heap.size + 1, 2, none⟩) (Nat.le_succ _) _).setCell (p := ⟨w.heap.size + 1, 3, none⟩) (Nat.le_succ _) _).setCell (p := ⟨w.heap.size, 0, none⟩) (Nat.le_refl _) _).setCell (p := ⟨w.heap.size, 1, none⟩) (Nat.le_refl _) _).setCell (p := ⟨w.heap.size, 2, none⟩) (Nat.le_refl _) _).setCell (p := ⟨w.heap.size, 3, none⟩) (Nat.le_refl _) _).drew
    · have HF := Lib.hid (show looseX s.data.toList = (-1, 0, false, 0) by unfold looseX; rw [getD_at h51, if_pos (.inr hb)])
      have g0 : decide (s.size < 5) = false := decide_eq_false h5
      have g1 : ((s[1].toNat : Int) != 46) = true := by
        rw [bne_iff_ne]
        intro e
        apply hb
        apply UInt8.toNat.inj
        have : s[1].toNat = 46 := by omega
        rw [this]; rfl
      clear hb hl
      go_enter Tryd.func24, Tryd.ntmps24
      go_wp2_with fail
      refine bodyPost_ret (v := sessV (-1, 0, false, 0)) (by simp [results, Tryd.results24, go_sem]) rfl ?_
      refine ⟨by rw [HF.out], ?_⟩
      exact ((Below.refl w.heap.size w).alloc (Nat.le_refl _) _).alloc (by simp) _
--@@
/-- the sessions of the first m words behind the first one -/
def lxE (ps : List (List UInt8)) (m : Nat) : List Sess := ((ps.drop 1).take m).map looseX
theorem lxE_len {ps : List (List UInt8)} {m : Nat} (h : m + 1 ≤ ps.length) : (lxE ps m).length = m := by unfold lxE; rw [List.length_map, List.length_take, List.length_drop]; omega
theorem lxE_succ {ps : List (List UInt8)} {j : Nat} (h1 : 1 ≤ j) (h : j < ps.length) : lxE ps j = lxE ps (j - 1) ++ [looseX (ps.getD j [])] := by
  unfold lxE
  have hl : j - 1 < (ps.drop 1).length := by rw [List.length_drop]; omega
  have e : (ps.drop 1).take j = (ps.drop 1).take (j - 1) ++ [ps.getD j []] := by
    conv => lhs; rw [show j = (j - 1) + 1 by omega]
    rw [List.take_succ_eq_append_getElem hl]
    congr 2
    rw [List.getElem_drop]
    simp only [List.getD, show 1 + (j - 1) = j by omega]
    simp [h]
  rw [e, List.map_append]
  rfl
def isSI (x : Int) : Value → World → Prop := fun v w => ∃ B, B ≤ w.heap.size ∧ SrcI B w v [x]
theorem isSI_mono (x : Int) : Mono (isSI x) := fun _ _ _ ⟨B, h, h1⟩ hb => ⟨B, Nat.le_trans h hb.size, h1.below hb h⟩
theorem objs_snoc (s : ByteArray) (k : Nat) (h : k < s.size) : (s.data.toList.take (k + 1)).map digV = (s.data.toList.take k).map digV ++ [(s[k].toNat : Int) - 48] := by
  have hl : k < s.data.toList.length := by rw [Array.length_toList]; exact h
  rw [List.take_succ_eq_append_getElem hl, List.map_append]
  rfl
set_option maxRecDepth 100000 in
set_option maxHeartbeats 16000000 in
theorem specParseMachine (s : ByteArray) (w : World) (hs : s.size ≤ 1048576) :
    Calls Tryd.prog 6 #[.string s] w fun e w' => ∃ u1 u2, e = .returned (.tuple #[.agg #[u1, u2], .bool (parMok s.data.toList)]) ∧ OwnI w.heap.size w' u1 (parMO s.data.toList) ∧ OwnS w.heap.size w' u2 (parMX s.data.toList) ∧ Below w.heap.size w w' := by
  have hl : s.data.toList.length = s.size := by rw [Array.length_toList]; rfl
  have hp0 := List.length_pos_iff.2 (cuts_ne 32 s.data.toList)
  have hpl := fun j => cuts_getD (x := 32) (l := s.data.toList) j
  rw [hl] at hpl
  have HPL := Lib.hid hpl
  have HLO := Lib.hid (show looseOs s.data.toList = looseO ((cuts 32 s.data.toList).getD 0 []) from rfl)
  have HLX := Lib.hid (show looseXs s.data.toList = (((cuts 32 s.data.toList).drop 1).take 8).map looseX from rfl)
  obtain ⟨W, hW⟩ : ∃ W, W = w.alloc (.cells #[.slice none 0 0, .slice none 0 0] 25) := ⟨_, rfl⟩
  have HB := Lib.hid (show Below w.heap.size w W by rw [hW]; exact (Below.refl _ _).alloc (Nat.le_refl _) _)
  have HR := Lib.hid (show BoxC W w.heap.size 25 #[.slice none 0 0, .slice none 0 0] by rw [hW]; exact BoxC.new _ _ _)
  have hWs : W.heap.size = w.heap.size + 1 := by rw [hW]; simp
  have HW := Lib.hid hW
  have JC := Lib.hid (cutEvery s 32 32 rfl W hs)
  clear hpl hl hW
  go_enter Tryd.func6, Tryd.ntmps6
  go_wp2_with fail
  rw [← HW.out]
  refine JC.out.mono ?_
  rintro e w1 ⟨v, rfl, ho, hb⟩
  clear JC HW
  generalize cuts 32 s.data.toList = ps at *
  obtain ⟨g, cap, rfl, hn, hm, hp⟩ := parts_of ho hp0
  unfold maxLen at hm
  have hbA := (Below.refl w1.heap.size w1).alloc (Nat.le_refl _) (.cells #[.slice none 0 0, .slice none 0 0] 25)
  have HP := Lib.hid (hp.later hbA)
  have HM := Lib.hid (BoxC.new w1 25 #[.slice none 0 0, .slice none 0 0])
  replace HR := Lib.hid ((HR.out.later hb).later hbA)
  replace HB := Lib.hid ((HB.out.trans (hb.mono HB.out.size)).trans (hbA.mono (Nat.le_trans HB.out.size hb.size)))
  have hpm : w.heap.size < w1.heap.size := by have := hb.size; omega
  obtain ⟨pm, hpm'⟩ : ∃ q, q = w1.heap.size := ⟨_, rfl⟩
  obtain ⟨w2, hw2⟩ : ∃ q, q = w1.alloc (.cells #[.slice none 0 0, .slice none 0 0] 25) := ⟨_, rfl⟩
  rw [← hw2] at HP HM HR HB
  rw [← hpm'] at HM hpm
  have HW2 := Lib.hid hw2
  have HPM := Lib.hid hpm'
  have hpb : w.heap.size ≤ pm := Nat.le_of_lt hpm
  have hne : w.heap.size ≠ pm := Nat.ne_of_lt hpm
  obtain ⟨sb, hsb⟩ : ∃ sb : ByteArray, sb.data.toList = ps.getD 0 [] := ⟨⟨(ps.getD 0 []).toArray⟩, by simp⟩
  have G0 : Hid (str (ps.getD 0 []) = .string sb) := Lib.hid (by rw [← hsb])
  have hsl : sb.size ≤ 1048576 := by
    have := HPL.out 0
    rw [← hsb, Array.length_toList] at this
    exact Nat.le_trans this hs
  rw [← hsb] at HLO
  clear hsb hp hb hbA hw2 hpm' ho
  go_upto_region 3 with (fail)
  rw [← HW2.out, ← HPM.out]
  go_wp2_with fail
  go_loopw [6] (fun i wr => ∃ (k : Nat) (u1 : Value), k ≤ sb.size ∧ k ≤ 9 ∧ i = .int .i64 k ∧ Hid (BoxC wr pm 25 #[u1, .slice none 0 0]) ∧ Hid (OwnI w.heap.size wr u1 ((sb.data.toList.take k).map digV)) ∧ Hid (PartsAt wr g ps) ∧ Hid (BoxC wr w.heap.size 25 #[.slice none 0 0, .slice none 0 0]) ∧ Hid (Below w.heap.size w wr)) (fun i _ => 9 - (intOf i).toNat)
  case atStart => exact ⟨0, _, Nat.zero_le _, by omega, rfl, HM, Lib.hid (World.ownsRow_nil _ _ _ _), HP, HR, HB⟩
  clear HM HP HR HB
  case round =>
    obtain ⟨k, u1, hk, hk9, rfl, HM, HO, HP, HR, HB⟩ := hrel
    obtain ⟨ua, uc, rfl⟩ := HO.out.shape
    have hlen : ((sb.data.toList.take k).map digV).length = k := by
      rw [List.length_map, List.length_take, Array.length_toList]
      exact Nat.min_eq_left hk
    have HM' := HM.out
    have HO' := HO.out
    rw [hlen] at HM' HO'
    replace HM := Lib.hid HM'
    replace HO := Lib.hid HO'
    clear HM' HO'
    have k3 : (0 : Int) ≤ (k : Int) := by omega
    have hcell := HP.out.2 0 hp0
    rw [G0.out] at hcell
    by_cases hlt : k < sb.size ∧ k < 9
    · have hlt1 := hlt.1
      have k4 : (k : Int) < (sb.size : Int) := by omega
      have k6 : (k : Int) < 9 := by omega
      have k7 : k < 9 := hlt.2
      have HX := Lib.hid (objs_snoc sb k hlt1)
      have b0 : sb[k].toNat < 256 := sb[k].toNat_lt
      have j3 : IntKind.i64.wrap (sb[k].toNat : Int) = (sb[k].toNat : Int) := IntWalk.i64_in _ (by omega)
      have j4 : IntKind.i64.wrap ((sb[k].toNat : Int) - 48) = (sb[k].toNat : Int) - 48 := IntWalk.i64_in _ (by omega)
      go_upto_region 6 with (fail)
      refine region_reach (m := 10) [24, 25, 26, 27, 28, 29, 30, 31, 32, 33] (Fs [isV (.pointer (some ⟨pm, 0, none⟩)), isV (.slice ua k uc), isV (.slice (some ⟨g, 0, none⟩) ps.length cap), isV (.pointer (some ⟨g, 0, none⟩)), isV (.string sb), isV (.int .i64 (k : Int)), isV (.int .u8 (sb[k].toNat : Int)), isV (.int .i64 (sb[k].toNat : Int)), isV (.int .i64 ((sb[k].toNat : Int) - 48)), isSI ((sb[k].toNat : Int) - 48)]) (by kernel_rfl) (by decide) rfl (by decide) (by kernel_rfl) (by kernel_rfl) (fun _ _ _ _ _ h => h) (Fs_mono ⟨isV_mono _, isV_mono _, isV_mono _, isV_mono _, isV_mono _, isV_mono _, isV_mono _, isV_mono _, isV_mono _, isSI_mono _, trivial⟩) ?step ?tail
      case step =>
        intro i hi vs wq hBq hd
        rcases (show i = 0 ∨ i = 1 ∨ i = 2 ∨ i = 3 ∨ i = 4 ∨ i = 5 ∨ i = 6 ∨ i = 7 ∨ i = 8 ∨ i = 9 from by omega) with rfl | rfl | rfl | rfl | rfl | rfl | rfl | rfl | rfl | rfl
        · refine wpOp_step (o := _) rfl (fun K' hK => ?_)
          have HK := Lib.hid hK
          clear hK
          simp only [lay, Act.put, List.setIfInBounds_toArray, List.set_cons_zero, List.set_cons_succ, List.getD_cons_zero, List.getD_cons_succ, id_eq]
          go_simp
          refine HK.out _ _ ⟨_, ?_, Below.refl _ _, rfl⟩
          simp only [lay, Act.put, List.setIfInBounds_toArray, List.set_cons_zero, List.set_cons_succ, List.getD_cons_zero, List.getD_cons_succ, id_eq]
        · have e0' : vs 0 = .pointer (some ⟨pm, 0, none⟩) := hd 0 (List.contains_iff_mem.1 (by kernel_rfl))
          have r0 := (HM.out.later hBq).c 0 rfl
          refine wpOp_step (o := _) rfl (fun K' hK => ?_)
          have HK := Lib.hid hK
          clear hK
          simp only [lay, Act.put, List.setIfInBounds_toArray, List.set_cons_zero, List.set_cons_succ, List.getD_cons_zero, List.getD_cons_succ, id_eq]
          rw [e0']
          go_simp
          refine HK.out _ _ ⟨_, ?_, Below.refl _ _, rfl⟩
          simp only [lay, Act.put, List.setIfInBounds_toArray, List.set_cons_zero, List.set_cons_succ, List.getD_cons_zero, List.getD_cons_succ, id_eq]
          rw [e0']
        · refine wpOp_step (o := _) rfl (fun K' hK => ?_)
          have HK := Lib.hid hK
          clear hK
          simp only [lay, Act.put, List.setIfInBounds_toArray, List.set_cons_zero, List.set_cons_succ, List.getD_cons_zero, List.getD_cons_succ, id_eq]
          go_simp
          refine HK.out _ _ ⟨_, ?_, Below.refl _ _, rfl⟩
          simp only [lay, Act.put, List.setIfInBounds_toArray, List.set_cons_zero, List.set_cons_succ, List.getD_cons_zero, List.getD_cons_succ, id_eq]
        · have e2' : vs 2 = .slice (some ⟨g, 0, none⟩) ps.length cap := hd 2 (List.contains_iff_mem.1 (by kernel_rfl))
          refine wpOp_step (o := _) rfl (fun K' hK => ?_)
          have HK := Lib.hid hK
          clear hK
          simp only [lay, Act.put, List.setIfInBounds_toArray, List.set_cons_zero, List.set_cons_succ, List.getD_cons_zero, List.getD_cons_succ, id_eq]
          rw [e2']
          go_simp
          refine HK.out _ _ ⟨_, ?_, Below.refl _ _, rfl⟩
          simp only [lay, Act.put, List.setIfInBounds_toArray, List.set_cons_zero, List.set_cons_succ, List.getD_cons_zero, List.getD_cons_succ, id_eq]
          rw [e2']
        · have e3' : vs 3 = .pointer (some ⟨g, 0, none⟩) := hd 3 (List.contains_iff_mem.1 (by kernel_rfl))
          have z0 := (HP.out.later hBq).2 0 hp0
          rw [G0.out] at z0
          refine wpOp_step (o := _) rfl (fun K' hK => ?_)
          have HK := Lib.hid hK
          clear hK
          simp only [lay, Act.put, List.setIfInBounds_toArray, List.set_cons_zero, List.set_cons_succ, List.getD_cons_zero, List.getD_cons_succ, id_eq]
          rw [e3']
          go_simp
          refine HK.out _ _ ⟨_, ?_, Below.refl _ _, rfl⟩
          simp only [lay, Act.put, List.setIfInBounds_toArray, List.set_cons_zero, List.set_cons_succ, List.getD_cons_zero, List.getD_cons_succ, id_eq]
          rw [e3']
        · refine wpOp_step (o := _) rfl (fun K' hK => ?_)
          have HK := Lib.hid hK
          clear hK
          simp only [lay, Act.put, List.setIfInBounds_toArray, List.set_cons_zero, List.set_cons_succ, List.getD_cons_zero, List.getD_cons_succ, id_eq]
          go_simp
          refine HK.out _ _ ⟨_, ?_, Below.refl _ _, rfl⟩
          simp only [lay, Act.put, List.setIfInBounds_toArray, List.set_cons_zero, List.set_cons_succ, List.getD_cons_zero, List.getD_cons_succ, id_eq]
        · have e4' : vs 4 = .string sb := hd 4 (List.contains_iff_mem.1 (by kernel_rfl))
          have e5' : vs 5 = .int .i64 (k : Int) := hd 5 (List.contains_iff_mem.1 (by kernel_rfl))
          refine wpOp_step (o := _) rfl (fun K' hK => ?_)
          have HK := Lib.hid hK
          clear hK
          simp only [lay, Act.put, List.setIfInBounds_toArray, List.set_cons_zero, List.set_cons_succ, List.getD_cons_zero, List.getD_cons_succ, id_eq]
          rw [e4', e5']
          go_simp
          refine HK.out _ _ ⟨_, ?_, Below.refl _ _, rfl⟩
          simp only [lay, Act.put, List.setIfInBounds_toArray, List.set_cons_zero, List.set_cons_succ, List.getD_cons_zero, List.getD_cons_succ, id_eq]
          rw [e4', e5']
        · have e6' : vs 6 = .int .u8 (sb[k].toNat : Int) := hd 6 (List.contains_iff_mem.1 (by kernel_rfl))
          refine wpOp_step (o := _) rfl (fun K' hK => ?_)
          have HK := Lib.hid hK
          clear hK
          simp only [lay, Act.put, List.setIfInBounds_toArray, List.set_cons_zero, List.set_cons_succ, List.getD_cons_zero, List.getD_cons_succ, id_eq]
          rw [e6']
          go_simp
          refine HK.out _ _ ⟨_, ?_, Below.refl _ _, rfl⟩
          simp only [lay, Act.put, List.setIfInBounds_toArray, List.set_cons_zero, List.set_cons_succ, List.getD_cons_zero, List.getD_cons_succ, id_eq]
          rw [e6']
        · have e7' : vs 7 = .int .i64 (sb[k].toNat : Int) := hd 7 (List.contains_iff_mem.1 (by kernel_rfl))
          refine wpOp_step (o := _) rfl (fun K' hK => ?_)
          have HK := Lib.hid hK
          clear hK
          simp only [lay, Act.put, List.setIfInBounds_toArray, List.set_cons_zero, List.set_cons_succ, List.getD_cons_zero, List.getD_cons_succ, id_eq]
          rw [e7']
          go_simp
          refine HK.out _ _ ⟨_, ?_, Below.refl _ _, rfl⟩
          simp only [lay, Act.put, List.setIfInBounds_toArray, List.set_cons_zero, List.set_cons_succ, List.getD_cons_zero, List.getD_cons_succ, id_eq]
          rw [e7']
        · have e8' : vs 8 = .int .i64 ((sb[k].toNat : Int) - 48) := hd 8 (List.contains_iff_mem.1 (by kernel_rfl))
          refine wpOp_step (o := _) rfl (fun K' hK => ?_)
          have HK := Lib.hid hK
          clear hK
          simp only [lay, Act.put, List.setIfInBounds_toArray, List.set_cons_zero, List.set_cons_succ, List.getD_cons_zero, List.getD_cons_succ, id_eq]
          rw [e8']
          go_simp
          refine HK.out _ _ ⟨_, ?_, (Below.refl _ _).alloc (Nat.le_refl _) _, _, ?_, SrcI.lit _ _⟩
          simp only [lay, Act.put, List.setIfInBounds_toArray, List.set_cons_zero, List.set_cons_succ, List.getD_cons_zero, List.getD_cons_succ, id_eq]
          rw [e8']
          simp
      case tail =>
        intro vs wq hBq hf
        have e1' : vs 1 = .slice ua k uc := hf 1 (by decide)
        obtain ⟨Bs, hBs, l9'⟩ : isSI ((sb[k].toNat : Int) - 48) (vs 9) wq := hf 9 (by decide)
        simp only [lay, Act.put, List.setIfInBounds_toArray, List.set_cons_zero, List.set_cons_succ, List.getD_cons_zero, List.getD_cons_succ, id_eq]
        rw [e1']
        clear e1'
        refine any_all (rs := [10]) (by kernel_rfl) (by simp) ?_
        intro i hi
        simp only [List.mem_cons, List.not_mem_nil, or_false] at hi
        subst hi
        refine wpOp_step (o := _) rfl (fun K' hK => ?_)
        have HK := Lib.hid hK
        clear hK
        have hsl := hBq.size
        refine wp_appI (.tmp 25) (.tmp 33) rfl w.heap.size _ ((sb.data.toList.take k).map digV) rfl (HO.out.later hBq) _ _ [(sb[k].toNat : Int) - 48] rfl l9' (by rw [hlen]; simp; omega) (Nat.le_trans HB.out.size hsl) ?_
        intro v' w6 ho6 hb6 hg6
        have hO1 := HO.out.later hBq
        replace HP := Lib.hid ((HP.out.later hBq).past (by decide) hO1.row hg6)
        replace HM := Lib.hid ((HM.out.later hBq).past (by decide) hO1.row hg6)
        replace HR := Lib.hid ((HR.out.later hBq).past (by decide) hO1.row hg6)
        replace HB := Lib.hid ((HB.out.trans (hBq.mono HB.out.size)).trans hb6)
        rw [← HX.out] at ho6
        obtain ⟨va, vc, hv6⟩ := ho6.shape
        rw [show ((sb.data.toList.take (k + 1)).map digV).length = k + 1 by rw [List.length_map, List.length_take, Array.length_toList]; exact Nat.min_eq_left hlt1] at hv6
        subst hv6
        replace HO := Lib.hid ho6
        clear ho6 hb6 hg6 hsl l9' hBq hO1
        refine HK.out _ _ ?_
        clear HK K'
        try simp only [Act.put, List.setIfInBounds_toArray, List.set_cons_zero, List.set_cons_succ]
        refine any_all (rs := [11]) (by kernel_rfl) (by simp) ?_
        intro i hi
        simp only [List.mem_cons, List.not_mem_nil, or_false] at hi
        subst hi
        refine wpOp_step (o := _) rfl (fun K' hK => ?_)
        have HK := Lib.hid hK
        clear hK
        go_simp
        refine HK.out _ _ ?_
        clear HK K'
        try simp only [Act.put, List.setIfInBounds_toArray, List.set_cons_zero, List.set_cons_succ]
        refine any_all (rs := [12]) (by kernel_rfl) (by simp) ?_
        intro i hi
        simp only [List.mem_cons, List.not_mem_nil, or_false] at hi
        subst hi
        refine wpOp_step (o := _) rfl (fun K' hK => ?_)
        have HK := Lib.hid hK
        clear hK
        have r0 := HM.out.c 0 rfl
        have f0 := HM.out.f 0
        go_simp
        refine HK.out _ _ ?_
        clear HK K'
        try simp only [Act.put, List.setIfInBounds_toArray, List.set_cons_zero, List.set_cons_succ]
        have HO2 := Lib.hid (row_put HO.out HM.out (by decide) 0 (.slice va (k + 1) vc))
        have HP2 := Lib.hid (HP.out.put HM.out (by decide) 0 (.slice va (k + 1) vc))
        have HR2 := Lib.hid (HR.out.keep hne 0 (.slice va (k + 1) vc))
        have HM2 := Lib.hid (HM.out.put 0 (.slice va (k + 1) vc))
        have HB2 := Lib.hid (HB.out.setCell (p := ⟨pm, 0, none⟩) hpb (.slice va (k + 1) vc))
        clear r0 f0
        refine any_done (by kernel_rfl) ?_ _
        go_wp2_with fail
        go_roundw
        case rel => exact ⟨k + 1, _, by omega, by omega, by go_num, HM2, HO2, HP2, HR2, HB2⟩
        case measure => simp [intOf]; omega
    · have HOL := Lib.hid (show (sb.data.toList.take k).map digV = looseOs s.data.toList by
        rw [HLO.out]
        unfold looseO
        congr 1
        by_cases h9 : k = 9
        · rw [h9]
        · rw [List.take_of_length_le (by rw [Array.length_toList]; show sb.size ≤ k; omega), List.take_of_length_le (by rw [Array.length_toList]; show sb.size ≤ 9; omega)])
      have hk4 : (decide (k < sb.size) = false) ∨ (decide (k < sb.size) = true ∧ decide ((k : Int) < 9) = false ∧ decide (k < 9) = false) := by
        by_cases h : k < sb.size
        · exact .inr ⟨decide_eq_true (by omega), decide_eq_false (by omega), decide_eq_false (by omega)⟩
        · exact .inl (decide_eq_false (by omega))
      have HO' := HO.out
      rw [HOL.out] at HO'
      replace HO := Lib.hid HO'
      rw [HOL.out] at hlen
      clear HO' HOL hlt HLO
      rcases hk4 with q1 | ⟨q1, q2, q3⟩
      · skip
        go_wp2_with fail
        go_loopw [7] (fun i wr2 => ∃ (j : Nat) (u2 : Value), 1 ≤ j ∧ j ≤ ps.length ∧ j ≤ 9 ∧ i = .int .i64 j ∧ Hid (BoxC wr2 pm 25 #[.slice ua k uc, u2]) ∧ Hid (OwnI w.heap.size wr2 (.slice ua k uc) (looseOs s.data.toList)) ∧ Hid (OwnS w.heap.size wr2 u2 (lxE ps (j - 1))) ∧ Hid (PartsAt wr2 g ps) ∧ Hid (BoxC wr2 w.heap.size 25 #[.slice none 0 0, .slice none 0 0]) ∧ Hid (Below w.heap.size w wr2)) (fun i _ => 9 - (intOf i).toNat)
        case atStart => exact ⟨1, _, Nat.le_refl _, hp0, by omega, rfl, HM, HO, Lib.hid (World.ownsRow_nil _ _ _ _), HP, HR, HB⟩
        clear HM HO HP HR HB hcell
        case round =>
          obtain ⟨j, u2, hj1, hj, hj9, rfl, HM, HO, HOS, HP, HR, HB⟩ := hrel
          obtain ⟨xa, xc, rfl⟩ := HOS.out.shape
          have hlx := lxE_len (ps := ps) (m := j - 1) (by omega)
          have HM' := HM.out
          have HO' := HOS.out
          rw [hlx] at HM' HO'
          replace HM := Lib.hid HM'
          replace HOS := Lib.hid HO'
          clear HM' HO'
          have k3 : (0 : Int) ≤ (j : Int) := by omega
          by_cases hlt : j < ps.length ∧ j < 9
          · have hlt1 := hlt.1
            have k4 : (j : Int) < (ps.length : Int) := by omega
            have k6 : (j : Int) < 9 := by omega
            have k7 : j < 9 := hlt.2
            have HX := Lib.hid (lxE_succ hj1 hlt1)
            have hcj := HP.out.2 j hlt1
            have hsj := HPL.out j
            obtain ⟨sp, hsp⟩ : ∃ sp : ByteArray, sp.data.toList = ps.getD j [] := ⟨⟨(ps.getD j []).toArray⟩, by simp⟩
            have e1 : str (ps.getD j []) = .string sp := by rw [← hsp]
            rw [e1] at hcj
            rw [← hsp] at HX hsj
            rw [Array.length_toList] at hsj
            have hsz : sp.size ≤ 1048576 := Nat.le_trans hsj hs
            have J := Lib.hid (specL4Session sp wr hsz)
            obtain ⟨xx, xs, xd, xv, hx⟩ : ∃ a b c d, looseX sp.data.toList = (a, b, c, d) := ⟨_, _, _, _, rfl⟩
            rw [hx] at HX J
            unfold sessV at J
            simp only at J
            clear hx e1 hsp hsj hlt hsz
            go_wp2_with fail
            refine J.out.mono ?_
            rintro e w3 ⟨rfl, hb⟩
            have hbA := (Below.refl w3.heap.size w3).alloc (Nat.le_refl _) (.cells #[.int .i64 xx, .int .i64 xs, .bool xd, .int .i64 xv] 48)
            replace HM := Lib.hid ((HM.out.later hb).later hbA)
            replace HO := Lib.hid ((HO.out.later hb).later hbA)
            replace HOS := Lib.hid ((HOS.out.later hb).later hbA)
            replace HP := Lib.hid ((HP.out.later hb).later hbA)
            replace HR := Lib.hid ((HR.out.later hb).later hbA)
            replace HB := Lib.hid ((HB.out.trans (hb.mono HB.out.size)).trans (hbA.mono (Nat.le_trans HB.out.size hb.size)))
            have r0 := HM.out.c 0 rfl
            have r1 := HM.out.c 1 rfl
            clear hb hbA J hcj
            have hbL := (Below.refl (w3.alloc (.cells #[.int .i64 xx, .int .i64 xs, .bool xd, .int .i64 xv] 48)).heap.size (w3.alloc (.cells #[.int .i64 xx, .int .i64 xs, .bool xd, .int .i64 xv] 48))).alloc (Nat.le_refl _) (.cells #[.int .i64 xx, .int .i64 xs, .bool xd, .int .i64 xv] 48)
            have hlit := SrcS.lit (w3.alloc (.cells #[.int .i64 xx, .int .i64 xs, .bool xd, .int .i64 xv] 48)) (xx, xs, xd, xv)
            simp only [World.size_alloc] at hlit
            have HML := Lib.hid (HM.out.later hbL)
            have HOL := Lib.hid (HO.out.later hbL)
            have HOSL := Lib.hid (HOS.out.later hbL)
            have HPL2 := Lib.hid (HP.out.later hbL)
            have HRL := Lib.hid (HR.out.later hbL)
            have HBL := Lib.hid (HB.out.trans (hbL.mono HB.out.size))
            have hs2 := HBL.out.size
            simp only [World.size_alloc] at hs2
            clear hbL
            go_wp2_with (at_builtin; refine wpList_appS rfl (.tmp 52) (.tmp 54) rfl w.heap.size _ (lxE ps (j - 1)) rfl HOSL.out _ _ [(xx, xs, xd, xv)] rfl hlit (by rw [hlx]; simp; omega) (by simp; omega) ?_; intro v' w6 ho6 hb6 hg6; have HM6 := Lib.hid (HML.out.past (by decide) HOSL.out.row hg6); have HO6 := Lib.hid (rows_past HOL.out.row HOSL.out.row (by decide) hg6); have HP6 := Lib.hid (HPL2.out.past (by decide) HOSL.out.row hg6); have HR6 := Lib.hid (HRL.out.past (by decide) HOSL.out.row hg6); have HB6 := Lib.hid (HBL.out.trans hb6); rw [← HX.out] at ho6; obtain ⟨va, vc, hv6⟩ := ho6.shape; rw [lxE_len (by omega)] at hv6; subst hv6; have y1 := HM6.out.c 1 rfl; have z1 := HM6.out.f 1)
            have HM7 := Lib.hid (HM6.out.put 1 (.slice va j vc))
            have HO7 := Lib.hid (row_put HO6.out HM6.out (by decide) 1 (.slice va j vc))
            have HOS7 := Lib.hid (row_put ho6.row HM6.out (by decide) 1 (.slice va j vc))
            have HP7 := Lib.hid (HP6.out.put HM6.out (by decide) 1 (.slice va j vc))
            have HR7 := Lib.hid (HR6.out.keep hne 1 (.slice va j vc))
            have HB7 := Lib.hid (HB6.out.setCell (p := ⟨pm, 1, none⟩) hpb (.slice va j vc))
            go_roundw
            case rel => exact ⟨j + 1, _, by omega, by omega, by omega, by go_num, HM7, HO7, HOS7, HP7, HR7, HB7⟩
            case measure => simp [intOf]; omega
          · have HOX := Lib.hid (show lxE ps (j - 1) = looseXs s.data.toList by
              rw [HLX.out]
              unfold lxE
              congr 1
              by_cases h9 : j = 9
              · rw [h9]
              · rw [List.take_of_length_le (by rw [List.length_drop]; omega), List.take_of_length_le (by rw [List.length_drop]; omega)])
            have hj4 : (decide (j < ps.length) = false) ∨ (decide (j < ps.length) = true ∧ decide ((j : Int) < 9) = false ∧ decide (j < 9) = false) := by
              by_cases h : j < ps.length
              · exact .inr ⟨decide_eq_true (by omega), decide_eq_false (by omega), decide_eq_false (by omega)⟩
              · exact .inl (decide_eq_false (by omega))
            have HO' := HOS.out
            rw [HOX.out] at HO' hlx
            replace HOS := Lib.hid HO'
            have l1 := looseOs_len s.data.toList
            have l2 := looseXs_len s.data.toList
            have JF := Lib.hid (specFormatMachine _ _ _ _ _ _ wr (by omega) (by omega) HO.out HOS.out)
            have r0 := HM.out.c 0 rfl
            have r1 := HM.out.c 1 rfl
            have q0 := HR.out.c 0 rfl
            have q1' := HR.out.c 1 rfl
            have f0 := HR.out.f 0
            have f1 := HR.out.f 1
            clear HO' HOX hlt HLX
            by_cases h0 : s.data.toList = []
            · have HF := Lib.hid (show parMok s.data.toList = false ∧ parMO s.data.toList = [] ∧ parMX s.data.toList = [] by
                have hno : ¬ okPM s.data.toList := fun h => h.1 h0
                exact ⟨decide_eq_false hno, if_neg hno, if_neg hno⟩)
              have g1 : (s.toList == []) = true := by rw [ByteArray.toList_eq, h0]; rfl
              clear h0
              rcases hj4 with p1 | ⟨p1, p2, p3⟩
              · skip
                go_wp2_with fail
                refine bodyPost_ret (v := .tuple #[.agg #[.slice none 0 0, .slice none 0 0], .bool false]) (by simp [results, Tryd.results6, go_sem, q0, q1']) rfl ?_
                exact ⟨_, _, by rw [HF.out.1], by rw [HF.out.2.1]; exact World.ownsRow_nil _ _ _ _, by rw [HF.out.2.2]; exact World.ownsRow_nil _ _ _ _, (HB.out.setCell (p := ⟨w.heap.size, 0, none⟩) (Nat.le_refl _) _).setCell (p := ⟨w.heap.size, 1, none⟩) (Nat.le_refl _) _⟩
              · skip
                go_wp2_with fail
                refine bodyPost_ret (v := .tuple #[.agg #[.slice none 0 0, .slice none 0 0], .bool false]) (by simp [results, Tryd.results6, go_sem, q0, q1']) rfl ?_
                exact ⟨_, _, by rw [HF.out.1], by rw [HF.out.2.1]; exact World.ownsRow_nil _ _ _ _, by rw [HF.out.2.2]; exact World.ownsRow_nil _ _ _ _, (HB.out.setCell (p := ⟨w.heap.size, 0, none⟩) (Nat.le_refl _) _).setCell (p := ⟨w.heap.size, 1, none⟩) (Nat.le_refl _) _⟩
            · have g1 : (s.toList == []) = false := by rw [ByteArray.toList_eq, beq_eq_false_iff_ne]; exact h0
              by_cases h1 : fmtM (looseOs s.data.toList) (looseXs s.data.toList) = s.data.toList
              · have HF := Lib.hid (show parMok s.data.toList = true ∧ parMO s.data.toList = looseOs s.data.toList ∧ parMX s.data.toList = looseXs s.data.toList from ⟨decide_eq_true ⟨h0, h1⟩, if_pos ⟨h0, h1⟩, if_pos ⟨h0, h1⟩⟩)
                have g2 : (fmtM (looseOs s.data.toList) (looseXs s.data.toList) == s.toList) = true := by rw [ByteArray.toList_eq, h1]; simp
                clear h0 h1
                rcases hj4 with p1 | ⟨p1, p2, p3⟩
                · skip
                  go_wp2_with fail
                  refine JF.out.mono ?_
                  rintro e w5 ⟨rfl, hb⟩
                  replace HM := Lib.hid (HM.out.later hb)
                  replace HO := Lib.hid (HO.out.later hb)
                  replace HOS := Lib.hid (HOS.out.later hb)
                  replace HR := Lib.hid (HR.out.later hb)
                  replace HB := Lib.hid (HB.out.trans (hb.mono HB.out.size))
                  clear r0 r1 q0 q1' f0 f1
                  have r0 := HM.out.c 0 rfl
                  have r1 := HM.out.c 1 rfl
                  have q0 := HR.out.c 0 rfl
                  have q1' := HR.out.c 1 rfl
                  have f0 := HR.out.f 0
                  have f1 := HR.out.f 1
                  clear hb JF
                  go_wp2_with fail
                  refine bodyPost_ret (v := .tuple #[.agg #[.slice ua k uc, .slice xa (j - 1) xc], .bool true]) (by simp [results, Tryd.results6, go_sem, q0, q1']) rfl ?_
                  exact ⟨_, _, by rw [HF.out.1], by rw [HF.out.2.1]; exact row_put (row_put HO.out.row HR.out (by decide) 0 _) (HR.out.put 0 _) (by decide) 1 _, by rw [HF.out.2.2]; exact row_put (row_put HOS.out.row HR.out (by decide) 0 _) (HR.out.put 0 _) (by decide) 1 _, (HB.out.setCell (p := ⟨w.heap.size, 0, none⟩) (Nat.le_refl _) _).setCell (p := ⟨w.heap.size, 1, none⟩) (Nat.le_refl _) _⟩
                · skip
                  go_wp2_with fail
                  refine JF.out.mono ?_
                  rintro e w5 ⟨rfl, hb⟩
                  replace HM := Lib.hid (HM.out.later hb)
                  replace HO := Lib.hid (HO.out.later hb)
                  replace HOS := Lib.hid (HOS.out.later hb)
                  replace HR := Lib.hid (HR.out.later hb)
                  replace HB := Lib.hid (HB.out.trans (hb.mono HB.out.size))
                  clear r0 r1 q0 q1' f0 f1
                  have r0 := HM.out.c 0 rfl
                  have r1 := HM.out.c 1 rfl
                  have q0 := HR.out.c 0 rfl
                  have q1' := HR.out.c 1 rfl
                  have f0 := HR.out.f 0
                  have f1 := HR.out.f 1
                  clear hb JF
                  go_wp2_with fail
                  refine bodyPost_ret (v := .tuple #[.agg #[.slice ua k uc, .slice xa (j - 1) xc], .bool true]) (by simp [results, Tryd.results6, go_sem, q0, q1']) rfl ?_
                  exact ⟨_, _, by rw [HF.out.1], by rw [HF.out.2.1]; exact row_put (row_put HO.out.row HR.out (by decide) 0 _) (HR.out.put 0 _) (by decide) 1 _, by rw [HF.out.2.2]; exact row_put (row_put HOS.out.row HR.out (by decide) 0 _) (HR.out.put 0 _) (by decide) 1 _, (HB.out.setCell (p := ⟨w.heap.size, 0, none⟩) (Nat.le_refl _) _).setCell (p := ⟨w.heap.size, 1, none⟩) (Nat.le_refl _) _⟩
              · have HF := Lib.hid (show parMok s.data.toList = false ∧ parMO s.data.toList = [] ∧ parMX s.data.toList = [] by
                  have hno : ¬ okPM s.data.toList := fun h => h1 h.2
                  exact ⟨decide_eq_false hno, if_neg hno, if_neg hno⟩)
                have g2 : (fmtM (looseOs s.data.toList) (looseXs s.data.toList) == s.toList) = false := by rw [ByteArray.toList_eq, beq_eq_false_iff_ne]; exact h1
                clear h0 h1
                rcases hj4 with p1 | ⟨p1, p2, p3⟩
                · skip
                  go_wp2_with fail
                  refine JF.out.mono ?_
                  rintro e w5 ⟨rfl, hb⟩
                  replace HM := Lib.hid (HM.out.later hb)
                  replace HO := Lib.hid (HO.out.later hb)
                  replace HOS := Lib.hid (HOS.out.later hb)
                  replace HR := Lib.hid (HR.out.later hb)
                  replace HB := Lib.hid (HB.out.trans (hb.mono HB.out.size))
                  clear r0 r1 q0 q1' f0 f1
                  have r0 := HM.out.c 0 rfl
                  have r1 := HM.out.c 1 rfl
                  have q0 := HR.out.c 0 rfl
                  have q1' := HR.out.c 1 rfl
                  have f0 := HR.out.f 0
                  have f1 := HR.out.f 1
                  clear hb JF
                  go_wp2_with fail
                  refine bodyPost_ret (v := .tuple #[.agg #[.slice none 0 0, .slice none 0 0], .bool false]) (by simp [results, Tryd.results6, go_sem, q0, q1']) rfl ?_
                  exact ⟨_, _, by rw [HF.out.1], by rw [HF.out.2.1]; exact World.ownsRow_nil _ _ _ _, by rw [HF.out.2.2]; exact World.ownsRow_nil _ _ _ _, (HB.out.setCell (p := ⟨w.heap.size, 0, none⟩) (Nat.le_refl _) _).setCell (p := ⟨w.heap.size, 1, none⟩) (Nat.le_refl _) _⟩
                · skip
                  go_wp2_with fail
                  refine JF.out.mono ?_
                  rintro e w5 ⟨rfl, hb⟩
                  replace HM := Lib.hid (HM.out.later hb)
                  replace HO := Lib.hid (HO.out.later hb)
                  replace HOS := Lib.hid (HOS.out.later hb)
                  replace HR := Lib.hid (HR.out.later hb)
                  replace HB := Lib.hid (HB.out.trans (hb.mono HB.out.size))
                  clear r0 r1 q0 q1' f0 f1
                  have r0 := HM.out.c 0 rfl
                  have r1 := HM.out.c 1 rfl
                  have q0 := HR.out.c 0 rfl
                  have q1' := HR.out.c 1 rfl
                  have f0 := HR.out.f 0
                  have f1 := HR.out.f 1
                  clear hb JF
                  go_wp2_with fail
                  refine bodyPost_ret (v := .tuple #[.agg #[.slice none 0 0, .slice none 0 0], .bool false]) (by simp [results, Tryd.results6, go_sem, q0, q1']) rfl ?_
                  exact ⟨_, _, by rw [HF.out.1], by rw [HF.out.2.1]; exact World.ownsRow_nil _ _ _ _, by rw [HF.out.2.2]; exact World.ownsRow_nil _ _ _ _, (HB.out.setCell (p := ⟨w.heap.size, 0, none⟩) (Nat.le_refl _) _).setCell (p := ⟨w.heap.size, 1, none⟩) (Nat.le_refl _) _⟩
      · skip
        go_wp2_with fail
        go_loopw [7] (fun i wr2 => ∃ (j : Nat) (u2 : Value), 1 ≤ j ∧ j ≤ ps.length ∧ j ≤ 9 ∧ i = .int .i64 j ∧ Hid (BoxC wr2 pm 25 #[.slice ua k uc, u2]) ∧ Hid (OwnI w.heap.size wr2 (.slice ua k uc) (looseOs s.data.toList)) ∧ Hid (OwnS w.heap.size wr2 u2 (lxE ps (j - 1))) ∧ Hid (PartsAt wr2 g ps) ∧ Hid (BoxC wr2 w.heap.size 25 #[.slice none 0 0, .slice none 0 0]) ∧ Hid (Below w.heap.size w wr2)) (fun i _ => 9 - (intOf i).toNat)
        case atStart => exact ⟨1, _, Nat.le_refl _, hp0, by omega, rfl, HM, HO, Lib.hid (World.ownsRow_nil _ _ _ _), HP, HR, HB⟩
        clear HM HO HP HR HB hcell
        case round =>
          obtain ⟨j, u2, hj1, hj, hj9, rfl, HM, HO, HOS, HP, HR, HB⟩ := hrel
          obtain ⟨xa, xc, rfl⟩ := HOS.out.shape
          have hlx := lxE_len (ps := ps) (m := j - 1) (by omega)
          have HM' := HM.out
          have HO' := HOS.out
          rw [hlx] at HM' HO'
          replace HM := Lib.hid HM'
          replace HOS := Lib.hid HO'
          clear HM' HO'
          have k3 : (0 : Int) ≤ (j : Int) := by omega
          by_cases hlt : j < ps.length ∧ j < 9
          · have hlt1 := hlt.1
            have k4 : (j : Int) < (ps.length : Int) := by omega
            have k6 : (j : Int) < 9 := by omega
            have k7 : j < 9 := hlt.2
            have HX := Lib.hid (lxE_succ hj1 hlt1)
            have hcj := HP.out.2 j hlt1
            have hsj := HPL.out j
            obtain ⟨sp, hsp⟩ : ∃ sp : ByteArray, sp.data.toList = ps.getD j [] := ⟨⟨(ps.getD j []).toArray⟩, by simp⟩
            have e1 : str (ps.getD j []) = .string sp := by rw [← hsp]
            rw [e1] at hcj
            rw [← hsp] at HX hsj
            rw [Array.length_toList] at hsj
            have hsz : sp.size ≤ 1048576 := Nat.le_trans hsj hs
            have J := Lib.hid (specL4Session sp wr hsz)
            obtain ⟨xx, xs, xd, xv, hx⟩ : ∃ a b c d, looseX sp.data.toList = (a, b, c, d) := ⟨_, _, _, _, rfl⟩
            rw [hx] at HX J
            unfold sessV at J
            simp only at J
            clear hx e1 hsp hsj hlt hsz
            go_wp2_with fail
            refine J.out.mono ?_
            rintro e w3 ⟨rfl, hb⟩
            have hbA := (Below.refl w3.heap.size w3).alloc (Nat.le_refl _) (.cells #[.int .i64 xx, .int .i64 xs, .bool xd, .int .i64 xv] 48)
            replace HM := Lib.hid ((HM.out.later hb).later hbA)
            replace HO := Lib.hid ((HO.out.later hb).later hbA)
            replace HOS := Lib.hid ((HOS.out.later hb).later hbA)
            replace HP := Lib.hid ((HP.out.later hb).later hbA)
            replace HR := Lib.hid ((HR.out.later hb).later hbA)
            replace HB := Lib.hid ((HB.out.trans (hb.mono HB.out.size)).trans (hbA.mono (Nat.le_trans HB.out.size hb.size)))
            have r0 := HM.out.c 0 rfl
            have r1 := HM.out.c 1 rfl
            clear hb hbA J hcj
            have hbL := (Below.refl (w3.alloc (.cells #[.int .i64 xx, .int .i64 xs, .bool xd, .int .i64 xv] 48)).heap.size (w3.alloc (.cells #[.int .i64 xx, .int .i64 xs, .bool xd, .int .i64 xv] 48))).alloc (Nat.le_refl _) (.cells #[.int .i64 xx, .int .i64 xs, .bool xd, .int .i64 xv] 48)
            have hlit := SrcS.lit (w3.alloc (.cells #[.int .i64 xx, .int .i64 xs, .bool xd, .int .i64 xv] 48)) (xx, xs, xd, xv)
            simp only [World.size_alloc] at hlit
            have HML := Lib.hid (HM.out.later hbL)
            have HOL := Lib.hid (HO.out.later hbL)
            have HOSL := Lib.hid (HOS.out.later hbL)
            have HPL2 := Lib.hid (HP.out.later hbL)
            have HRL := Lib.hid (HR.out.later hbL)
            have HBL := Lib.hid (HB.out.trans (hbL.mono HB.out.size))
            have hs2 := HBL.out.size
            simp only [World.size_alloc] at hs2
            clear hbL
            go_wp2_with (at_builtin; refine wpList_appS rfl (.tmp 52) (.tmp 54) rfl w.heap.size _ (lxE ps (j - 1)) rfl HOSL.out _ _ [(xx, xs, xd, xv)] rfl hlit (by rw [hlx]; simp; omega) (by simp; omega) ?_; intro v' w6 ho6 hb6 hg6; have HM6 := Lib.hid (HML.out.past (by decide) HOSL.out.row hg6); have HO6 := Lib.hid (rows_past HOL.out.row HOSL.out.row (by decide) hg6); have HP6 := Lib.hid (HPL2.out.past (by decide) HOSL.out.row hg6); have HR6 := Lib.hid (HRL.out.past (by decide) HOSL.out.row hg6); have HB6 := Lib.hid (HBL.out.trans hb6); rw [← HX.out] at ho6; obtain ⟨va, vc, hv6⟩ := ho6.shape; rw [lxE_len (by omega)] at hv6; subst hv6; have y1 := HM6.out.c 1 rfl; have z1 := HM6.out.f 1)
            have HM7 := Lib.hid (HM6.out.put 1 (.slice va j vc))
            have HO7 := Lib.hid (row_put HO6.out HM6.out (by decide) 1 (.slice va j vc))
            have HOS7 := Lib.hid (row_put ho6.row HM6.out (by decide) 1 (.slice va j vc))
            have HP7 := Lib.hid (HP6.out.put HM6.out (by decide) 1 (.slice va j vc))
            have HR7 := Lib.hid (HR6.out.keep hne 1 (.slice va j vc))
            have HB7 := Lib.hid (HB6.out.setCell (p := ⟨pm, 1, none⟩) hpb (.slice va j vc))
            go_roundw
            case rel => exact ⟨j + 1, _, by omega, by omega, by omega, by go_num, HM7, HO7, HOS7, HP7, HR7, HB7⟩
            case measure => simp [intOf]; omega
          · have HOX := Lib.hid (show lxE ps (j - 1) = looseXs s.data.toList by
              rw [HLX.out]
              unfold lxE
              congr 1
              by_cases h9 : j = 9
              · rw [h9]
              · rw [List.take_of_length_le (by rw [List.length_drop]; omega), List.take_of_length_le (by rw [List.length_drop]; omega)])
            have hj4 : (decide (j < ps.length) = false) ∨ (decide (j < ps.length) = true ∧ decide ((j : Int) < 9) = false ∧ decide (j < 9) = false) := by
              by_cases h : j < ps.length
              · exact .inr ⟨decide_eq_true (by omega), decide_eq_false (by omega), decide_eq_false (by omega)⟩
              · exact .inl (decide_eq_false (by omega))
            have HO' := HOS.out
            rw [HOX.out] at HO' hlx
            replace HOS := Lib.hid HO'
            have l1 := looseOs_len s.data.toList
            have l2 := looseXs_len s.data.toList
            have JF := Lib.hid (specFormatMachine _ _ _ _ _ _ wr (by omega) (by omega) HO.out HOS.out)
            have r0 := HM.out.c 0 rfl
            have r1 := HM.out.c 1 rfl
            have q0 := HR.out.c 0 rfl
            have q1' := HR.out.c 1 rfl
            have f0 := HR.out.f 0
            have f1 := HR.out.f 1
            clear HO' HOX hlt HLX
            by_cases h0 : s.data.toList = []
            · have HF := Lib.hid (show parMok s.data.toList = false ∧ parMO s.data.toList = [] ∧ parMX s.data.toList = [] by
                have hno : ¬ okPM s.data.toList := fun h => h.1 h0
                exact ⟨decide_eq_false hno, if_neg hno, if_neg hno⟩)
              have g1 : (s.toList == []) = true := by rw [ByteArray.toList_eq, h0]; rfl
              clear h0
              rcases hj4 with p1 | ⟨p1, p2, p3⟩
              · skip
                go_wp2_with fail
                refine bodyPost_ret (v := .tuple #[.agg #[.slice none 0 0, .slice none 0 0], .bool false]) (by simp [results, Tryd.results6, go_sem, q0, q1']) rfl ?_
                exact ⟨_, _, by rw [HF.out.1], by rw [HF.out.2.1]; exact World.ownsRow_nil _ _ _ _, by rw [HF.out.2.2]; exact World.ownsRow_nil _ _ _ _, (HB.out.setCell (p := ⟨w.heap.size, 0, none⟩) (Nat.le_refl _) _).setCell (p := ⟨w.heap.size, 1, none⟩) (Nat.le_refl _) _⟩
              · skip
                go_wp2_with fail
                refine bodyPost_ret (v := .tuple #[.agg #[.slice none 0 0, .slice none 0 0], .bool false]) (by simp [results, Tryd.results6, go_sem, q0, q1']) rfl ?_
                exact ⟨_, _, by rw [HF.out.1], by rw [HF.out.2.1]; exact World.ownsRow_nil _ _ _ _, by rw [HF.out.2.2]; exact World.ownsRow_nil _ _ _ _, (HB.out.setCell (p := ⟨w.heap.size, 0, none⟩) (Nat.le_refl _) _).setCell (p := ⟨w.heap.size, 1, none⟩) (Nat.le_refl _) _⟩
            · have g1 : (s.toList == []) = false := by rw [ByteArray.toList_eq, beq_eq_false_iff_ne]; exact h0
              by_cases h1 : fmtM (looseOs s.data.toList) (looseXs s.data.toList) = s.data.toList
              · have HF := Lib.hid (show parMok s.data.toList = true ∧ parMO s.data.toList = looseOs s.data.toList ∧ parMX s.data.toList = looseXs s.data.toList from ⟨decide_eq_true ⟨h0, h1⟩, if_pos ⟨h0, h1⟩, if_pos ⟨h0, h1⟩⟩)
                have g2 : (fmtM (looseOs s.data.toList) (looseXs s.data.toList) == s.toList) = true := by rw [ByteArray.toList_eq, h1]; simp
                clear h0 h1
                rcases hj4 with p1 | ⟨p1, p2, p3⟩
                · skip
                  go_wp2_with fail
                  refine JF.out.mono ?_
                  rintro e w5 ⟨rfl, hb⟩
                  replace HM := Lib.hid (HM.out.later hb)
                  replace HO := Lib.hid (HO.out.later hb)
                  replace HOS := Lib.hid (HOS.out.later hb)
                  replace HR := Lib.hid (HR.out.later hb)
                  replace HB := Lib.hid (HB.out.trans (hb.mono HB.out.size))
                  clear r0 r1 q0 q1' f0 f1
                  have r0 := HM.out.c 0 rfl
                  have r1 := HM.out.c 1 rfl
                  have q0 := HR.out.c 0 rfl
                  have q1' := HR.out.c 1 rfl
                  have f0 := HR.out.f 0
                  have f1 := HR.out.f 1
                  clear hb JF
                  go_wp2_with fail
                  refine bodyPost_ret (v := .tuple #[.agg #[.slice ua k uc, .slice xa (j - 1) xc], .bool true]) (by simp [results, Tryd.results6, go_sem, q0, q1']) rfl ?_
                  exact ⟨_, _, by rw [HF.out.1], by rw [HF.out.2.1]; exact row_put (row_put HO.out.row HR.out (by decide) 0 _) (HR.out.put 0 _) (by decide) 1 _, by rw [HF.out.2.2]; exact row_put (row_put HOS.out.row HR.out (by decide) 0 _) (HR.out.put 0 _) (by decide) 1 _, (HB.out.setCell (p := ⟨w.heap.size, 0, none⟩) (Nat.le_refl _) _).setCell (p := ⟨w.heap.size, 1, none⟩) (Nat.le_refl _) _⟩
                · skip
                  go_wp2_with fail
                  refine JF.out.mono ?_
                  rintro e w5 ⟨rfl, hb⟩
                  replace HM := Lib.hid (HM.out.later hb)
                  replace HO := Lib.hid (HO.out.later hb)
                  replace HOS := Lib.hid (HOS.out.later hb)
                  replace HR := Lib.hid (HR.out.later hb)
                  replace HB := Lib.hid (HB.out.trans (hb.mono HB.out.size))
                  clear r0 r1 q0 q1' f0 f1
                  have r0 := HM.out.c 0 rfl
                  have r1 := HM.out.c 1 rfl
                  have q0 := HR.out.c 0 rfl
                  have q1' := HR.out.c 1 rfl
                  have f0 := HR.out.f 0
                  have f1 := HR.out.f 1
                  clear hb JF
                  go_wp2_with fail
                  refine bodyPost_ret (v := .tuple #[.agg #[.slice ua k uc, .slice xa (j - 1) xc], .bool true]) (by simp [results, Tryd.results6, go_sem, q0, q1']) rfl ?_
                  exact ⟨_, _, by rw [HF.out.1], by rw [HF.out.2.1]; exact row_put (row_put HO.out.row HR.out (by decide) 0 _) (HR.out.put 0 _) (by decide) 1 _, by rw [HF.out.2.2]; exact row_put (row_put HOS.out.row HR.out (by decide) 0 _) (HR.out.put 0 _) (by decide) 1 _, (HB.out.setCell (p := ⟨w.heap.size, 0, none⟩) (Nat.le_refl _) _).setCell (p := ⟨w.heap.size, 1, none⟩) (Nat.le_refl _) _⟩
              · have HF := Lib.hid (show parMok s.data.toList = false ∧ parMO s.data.toList = [] ∧ parMX s.data.toList = [] by
                  have hno : ¬ okPM s.data.toList := fun h => h1 h.2
                  exact ⟨decide_eq_false hno, if_neg hno, if_neg hno⟩)
                have g2 : (fmtM (looseOs s.data.toList) (looseXs s.data.toList) == s.toList) = false := by rw [ByteArray.toList_eq, beq_eq_false_iff_ne]; exact h1
                clear h0 h1
                rcases hj4 with p1 | ⟨p1, p2, p3⟩
                · skip
                  go_wp2_with fail
                  refine JF.out.mono ?_
                  rintro e w5 ⟨rfl, hb⟩
                  replace HM := Lib.hid (HM.out.later hb)
                  replace HO := Lib.hid (HO.out.later hb)
                  replace HOS := Lib.hid (HOS.out.later hb)
                  replace HR := Lib.hid (HR.out.later hb)
                  replace HB := Lib.hid (HB.out.trans (hb.mono HB.out.size))
                  clear r0 r1 q0 q1' f0 f1
                  have r0 := HM.out.c 0 rfl
                  have r1 := HM.out.c 1 rfl
                  have q0 := HR.out.c 0 rfl
                  have q1' := HR.out.c 1 rfl
                  have f0 := HR.out.f 0
                  have f1 := HR.out.f 1
                  clear hb JF
                  go_wp2_with fail
                  refine bodyPost_ret (v := .tuple #[.agg #[.slice none 0 0, .slice none 0 0], .bool false]) (by simp [results, Tryd.results6, go_sem, q0, q1']) rfl ?_
                  exact ⟨_, _, by rw [HF.out.1], by rw [HF.out.2.1]; exact World.ownsRow_nil _ _ _ _, by rw [HF.out.2.2]; exact World.ownsRow_nil _ _ _ _, (HB.out.setCell (p := ⟨w.heap.size, 0, none⟩) (Nat.le_refl _) _).setCell (p := ⟨w.heap.size, 1, none⟩) (Nat.le_refl _) _⟩
                · skip
                  go_wp2_with fail
                  refine JF.out.mono ?_
                  rintro e w5 ⟨rfl, hb⟩
                  replace HM := Lib.hid (HM.out.later hb)
                  replace HO := Lib.hid (HO.out.later hb)
                  replace HOS := Lib.hid (HOS.out.later hb)
                  replace HR := Lib.hid (HR.out.later hb)
                  replace HB := Lib.hid (HB.out.trans (hb.mono HB.out.size))
                  clear r0 r1 q0 q1' f0 f1
                  have r0 := HM.out.c 0 rfl
                  have r1 := HM.out.c 1 rfl
                  have q0 := HR.out.c 0 rfl
                  have q1' := HR.out.c 1 rfl
                  have f0 := HR.out.f 0
                  have f1 := HR.out.f 1
                  clear hb JF
                  go_wp2_with fail
                  refine bodyPost_ret (v := .tuple #[.agg #[.slice none 0 0, .slice none 0 0], .bool false]) (by simp [results, Tryd.results6, go_sem, q0, q1']) rfl ?_
                  exact ⟨_, _, by rw [HF.out.1], by rw [HF.out.2.1]; exact World.ownsRow_nil _ _ _ _, by rw [HF.out.2.2]; exact World.ownsRow_nil _ _ _ _, (HB.out.setCell (p := ⟨w.heap.size, 0, none⟩) (Nat.le_refl _) _).setCell (p := ⟨w.heap.size, 1, none⟩) (Nat.le_refl _) _⟩
end Go.Proofs.YtibpajlfcknegaaDoor.kit
