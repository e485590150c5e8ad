/-
  Chapter 8: what impl's ParseConfig returns.
-/
import Derived.Test.YtmojigimlhjphaaDoorS8Impl
import Derived.Test.YtmojigimlhjphaaDoorS8Math
import Derived.Test.YtmojigimlhjphaaDoorSplitW
import Derived.Test.YtmojigimlhjphaaDoorParseInts
import Derived.Test.YtmojigimlhjphaaDoorInvV
import Derived.Test.YtmojigimlhjphaaDoorS2ParseImpl
namespace Go.Proofs.YtmojigimlhjphaaDoor.kit
open Go.ChangeShapes Go.WideShapes Go.ChangeAt Go.RowKit
set_option linter.unusedVariables false
set_option linter.unusedSimpArgs false

theorem fourI {α : Type} {L : List α} (h : L.length = 4) : ∃ a b c d, L = [a, b, c, d] := by
  match L, h with
  | [a, b, c, d], _ => exact ⟨a, b, c, d, rfl⟩
theorem splitC (s : ByteArray) (w : World) (hs : s.size ≤ 1048576) (hM : Mx w) :
    Calls Tryd.prog 25 #[.string s, .string { data := #[32] }, .int .i64 4] w fun e w' => ∃ g cap, e = .returned (.slice (some ⟨g, 0, none⟩) (wordsC s.data.toList).length cap) ∧ (wordsC s.data.toList).length ≤ cap ∧ cap ≤ 4 ∧ w.heap.size ≤ g ∧
      PartsAt w' g (wordsC s.data.toList) ∧ Below w.heap.size w w' := splitWordsK 32 3 (by omega) s w hs hM
set_option maxRecDepth 100000 in
set_option maxHeartbeats 16000000 in
theorem implParseConfig (s : ByteArray) (w : World) (hs : s.size ≤ 1048576) (hT : Tab w) (hM : Mx w) :
    Calls Tryd.prog 11 #[.string s] w fun e w' => ∃ u1 u2, e = .returned (.tuple #[.agg #[.int .i64 (parCx s.data.toList), .int .i64 (parCy s.data.toList), u1, u2], .bool (parCok s.data.toList)]) ∧ OwnI w.heap.size w' u1 (parC1 s.data.toList) ∧ OwnI w.heap.size w' u2 (parC2 s.data.toList) ∧ Below w.heap.size w w' ∧ Apart u1 u2 := by
  have hl : s.data.toList.length = s.size := by rw [Array.length_toList]; rfl
  have hpl : ∀ j, ((wordsC s.data.toList).getD j []).length ≤ s.size := fun j => by
    rcases Nat.lt_or_ge j (wordsC s.data.toList).length with h | h
    · have hm : (wordsC s.data.toList).getD j [] ∈ wordsC s.data.toList := by simp [List.getD, h]
      have := split_mem 32 _ _ _ hm
      omega
    · simp [List.getD, h]
  obtain ⟨W, hW⟩ : ∃ W, W = w.alloc (.cells #[.int .i64 0, .int .i64 0, .slice none 0 0, .slice none 0 0] 27) := ⟨_, rfl⟩
  have HB := Lib.hid (show Below w.heap.size w W by rw [hW]; exact (Below.refl _ _).alloc (Nat.le_refl _) _)
  have HR := Lib.hid (show BoxC W w.heap.size 27 #[.int .i64 0, .int .i64 0, .slice none 0 0, .slice none 0 0] by rw [hW]; exact BoxC.new _ _ _)
  have hWs : W.heap.size = w.heap.size + 1 := by rw [hW]; simp
  have HW := Lib.hid hW
  have HT := Lib.hid (fun W' (h : Below w.heap.size w W') => hT.below h)
  have JC := Lib.hid (splitC s W hs (hM.below HB.out))
  have HYES := Lib.hid (fun h => conf_yes (s := s.data.toList) h)
  have HNO := Lib.hid (fun h => parC_no (conf_no (s := s.data.toList) h))
  have HY' := Lib.hid (fun h => parC_yes (s := s.data.toList) h)
  clear hl hW hT hM
  go_enter Tryd.func11, Tryd.ntmps11
  go_wp2_with fail
  rw [← HW.out]
  refine JC.out.mono ?_
  rintro e w1 ⟨g, cap, rfl, hn, hc4, hgw, hp, hb⟩
  clear JC HW
  have HP := Lib.hid hp
  replace HR := Lib.hid (HR.out.later hb)
  have hg0 : w.heap.size ≤ w1.heap.size := by have := hb.size; omega
  replace HB := Lib.hid (HB.out.trans (hb.mono HB.out.size))
  clear hp hb
  generalize wordsC s.data.toList = ps at *
  by_cases h4 : ps.length = 4
  · obtain ⟨p0, p1, p2, p3, rfl⟩ := fourI h4
    have hq0 := hpl 0
    have hq1 := hpl 1
    have hq2 := hpl 2
    have hq3 := hpl 3
    simp only [List.getD_cons_zero, List.getD_cons_succ] at hq0 hq1 hq2 hq3
    have hp0' : p0.length ≤ 1048576 := Nat.le_trans hq0 hs
    have hp1 : p1.length ≤ 1048576 := Nat.le_trans hq1 hs
    have hp2 : p2.length ≤ 1048576 := Nat.le_trans hq2 hs
    have hp3 : p3.length ≤ 1048576 := Nat.le_trans hq3 hs
    have HL := Lib.hid (show [p0, p1, p2, p3].length = 4 from rfl)
    rw [HL.out] at hn
    have hc2 : (2 : Int) ≤ (cap : Int) := by omega
    have hc2' : 2 ≤ cap := by omega
    rw [HL.out]
    have HG := Lib.hid (show goodC [p0, p1, p2, p3] ↔ (allPar [p0, p1] = true ∧ parseSok p2 = true ∧ parseSok p3 = true ∧ CfgOk (parN p0) (parN p1) (parseS p2) (parseS p3)) from ⟨fun h => h.2, fun h => ⟨rfl, h⟩⟩)
    replace HYES := Lib.hid (show CfgOk (parN p0) (parN p1) (parseS p2) (parseS p3) → allPar [p0, p1] = true → parseSok p2 = true → parseSok p3 = true → okPC s.data.toList ∧ cx s.data.toList = parN p0 ∧ cy s.data.toList = parN p1 ∧ c1 s.data.toList = parseS p2 ∧ c2 s.data.toList = parseS p3 from fun a b c d => HYES.out (HG.out.2 ⟨b, c, d, a⟩))
    have j2 := fun W (h : Below w.heap.size w W) => implParseServers ⟨p2.toArray⟩ W (by rw [size_mk]; exact hp2)
    have j3 := fun W (h : Below w.heap.size w W) => implParseServers ⟨p3.toArray⟩ W (by rw [size_mk]; exact hp3)
    simp only at j2 j3
    have l1 : (parseS p2).length ≤ 1048576 := by have := parseS_len5 p2; omega
    have l2 : (parseS p3).length ≤ 1048576 := by have := parseS_len5 p3; omega
    have hat : AtP w1 (some ⟨g, 0, none⟩) [p0, p1] := fun j hj => by
      refine ⟨_, rfl, HP.out.lt, ?_⟩
      have hadd : (⟨g, 0, none⟩ : Addr).add j = ⟨g, j, none⟩ := by unfold Addr.add; split <;> simp_all
      rw [hadd]
      match j, hj with
      | 0, _ => exact HP.out.2 0 (by rw [HL.out]; decide)
      | 1, _ => exact HP.out.2 1 (by rw [HL.out]; decide)
    have JP := Lib.hid (parseInts (some ⟨g, 0, none⟩) 2 cap [p0, p1] w1 rfl (by omega) (fun j => by
      match j with
      | 0 => exact hp0'
      | 1 => exact hp1
      | n + 2 => simp) hat (HT.out _ HB.out))
    have hnum : allPar [p0, p1] = true → numsOf [p0, p1] = [parN p0, parN p1] := fun h => by unfold numsOf; rw [if_pos h]; rfl
    have HNUM := Lib.hid hnum
    generalize parN p0 = X at *
    generalize parN p1 = Y at *
    generalize parseS p2 = R1 at *
    generalize parseS p3 = R2 at *
    have J2 := Lib.hid j2
    have J3 := Lib.hid j3
    clear h4 hq0 hq1 hq2 hq3 hpl j2 j3 hat hnum
    go_wp2_with fail
    refine JP.out.mono ?_
    rintro e wa ⟨vn, rfl, hon, hbn⟩
    have HON := Lib.hid hon
    replace HP := Lib.hid (HP.out.later hbn)
    replace HR := Lib.hid (HR.out.later hbn)
    replace HB := Lib.hid (HB.out.trans (hbn.mono hg0))
    have hga := Nat.le_trans hg0 hbn.size
    obtain ⟨na, nc, rfl⟩ := hon.shape
    have c2' := HP.out.2 2 (by rw [HL.out]; decide)
    simp only [List.getD_cons_zero, List.getD_cons_succ] at c2'
    clear hon hbn JP
    go_wp2_with fail
    refine (J2.out _ HB.out).mono ?_
    rintro e w2 ⟨v2, rfl, ho2, hb2⟩
    obtain ⟨ra, rc, rfl⟩ := ho2.shape
    have HO2 := Lib.hid ho2
    replace HON := Lib.hid (HON.out.later hb2)
    replace HP := Lib.hid (HP.out.later hb2)
    replace HR := Lib.hid (HR.out.later hb2)
    replace HB := Lib.hid (HB.out.trans (hb2.mono hga))
    have hg2 := Nat.le_trans hga hb2.size
    clear ho2 hb2 J2 c2'
    have c3' := HP.out.2 3 (by rw [HL.out]; decide)
    simp only [List.getD_cons_zero, List.getD_cons_succ] at c3'
    go_wp2_with fail
    refine (J3.out _ HB.out).mono ?_
    rintro e w3 ⟨v3, rfl, ho3, hb3⟩
    have HAP := Lib.hid (apart_of HO2.out ho3 (Nat.le_refl _))
    obtain ⟨qa, qc, rfl⟩ := ho3.shape
    have HO3 := Lib.hid (ho3.mono hg2)
    replace HO2 := Lib.hid ((HO2.out.later hb3).mono hga)
    replace HON := Lib.hid (HON.out.later hb3)
    replace HR := Lib.hid (HR.out.later hb3)
    replace HB := Lib.hid (HB.out.trans (hb3.mono hg2))
    have hg3 := Nat.le_trans hg2 hb3.size
    clear ho3 hb3 J3 c3' HP
    cases ea : allPar [p0, p1] with
    | false =>
      have eb : True := trivial
      have ec : True := trivial
      have HF := Lib.hid (HNO.out (fun h => by have h' := HG.out.1 h; simp [ea, eb, ec] at h'))
      clear ea eb ec
      have r0 := HR.out.c 0 rfl
      have r1 := HR.out.c 1 rfl
      have r2 := HR.out.c 2 rfl
      have r3 := HR.out.c 3 rfl
      have f0 := HR.out.f 0
      have f1 := HR.out.f 1
      have f2 := HR.out.f 2
      have f3 := HR.out.f 3
      go_wp2_with fail
      refine bodyPost_ret (v := .tuple #[.agg #[.int .i64 0, .int .i64 0, .slice none 0 0, .slice none 0 0], .bool false]) (by simp [results, Tryd.results11, go_sem, r0, r1, r2, r3]) rfl ?_
      refine ⟨_, _, by rw [HF.out.1, HF.out.2.1, HF.out.2.2.1], by rw [HF.out.2.2.2.1]; exact World.ownsRow_nil _ _ _ _, by rw [HF.out.2.2.2.2]; exact World.ownsRow_nil _ _ _ _, ?_, apart_nil _ _ _⟩
      exact
        (((HB.out.setCell (p := ⟨w.heap.size, 0, none⟩) (Nat.le_refl _) _).setCell (p := ⟨w.heap.size, 1, none⟩) (Nat.le_refl _) _).setCell (p := ⟨w.heap.size, 2, none⟩) (Nat.le_refl _) _).setCell (p := ⟨w.heap.size, 3, none⟩) (Nat.le_refl _) _
    | true =>
      cases eb : parseSok p2 with
      | false =>
        have ec : True := trivial
        have HF := Lib.hid (HNO.out (fun h => by have h' := HG.out.1 h; simp [ea, eb, ec] at h'))
        clear ea eb ec
        have r0 := HR.out.c 0 rfl
        have r1 := HR.out.c 1 rfl
        have r2 := HR.out.c 2 rfl
        have r3 := HR.out.c 3 rfl
        have f0 := HR.out.f 0
        have f1 := HR.out.f 1
        have f2 := HR.out.f 2
        have f3 := HR.out.f 3
        go_wp2_with fail
        refine bodyPost_ret (v := .tuple #[.agg #[.int .i64 0, .int .i64 0, .slice none 0 0, .slice none 0 0], .bool false]) (by simp [results, Tryd.results11, go_sem, r0, r1, r2, r3]) rfl ?_
        refine ⟨_, _, by rw [HF.out.1, HF.out.2.1, HF.out.2.2.1], by rw [HF.out.2.2.2.1]; exact World.ownsRow_nil _ _ _ _, by rw [HF.out.2.2.2.2]; exact World.ownsRow_nil _ _ _ _, ?_, apart_nil _ _ _⟩
        exact
          (((HB.out.setCell (p := ⟨w.heap.size, 0, none⟩) (Nat.le_refl _) _).setCell (p := ⟨w.heap.size, 1, none⟩) (Nat.le_refl _) _).setCell (p := ⟨w.heap.size, 2, none⟩) (Nat.le_refl _) _).setCell (p := ⟨w.heap.size, 3, none⟩) (Nat.le_refl _) _
      | true =>
        cases ec : parseSok p3 with
        | false =>
          have HF := Lib.hid (HNO.out (fun h => by have h' := HG.out.1 h; simp [ea, eb, ec] at h'))
          clear ea eb ec
          have r0 := HR.out.c 0 rfl
          have r1 := HR.out.c 1 rfl
          have r2 := HR.out.c 2 rfl
          have r3 := HR.out.c 3 rfl
          have f0 := HR.out.f 0
          have f1 := HR.out.f 1
          have f2 := HR.out.f 2
          have f3 := HR.out.f 3
          go_wp2_with fail
          refine bodyPost_ret (v := .tuple #[.agg #[.int .i64 0, .int .i64 0, .slice none 0 0, .slice none 0 0], .bool false]) (by simp [results, Tryd.results11, go_sem, r0, r1, r2, r3]) rfl ?_
          refine ⟨_, _, by rw [HF.out.1, HF.out.2.1, HF.out.2.2.1], by rw [HF.out.2.2.2.1]; exact World.ownsRow_nil _ _ _ _, by rw [HF.out.2.2.2.2]; exact World.ownsRow_nil _ _ _ _, ?_, apart_nil _ _ _⟩
          exact
            (((HB.out.setCell (p := ⟨w.heap.size, 0, none⟩) (Nat.le_refl _) _).setCell (p := ⟨w.heap.size, 1, none⟩) (Nat.le_refl _) _).setCell (p := ⟨w.heap.size, 2, none⟩) (Nat.le_refl _) _).setCell (p := ⟨w.heap.size, 3, none⟩) (Nat.le_refl _) _
        | true =>
          replace HON := Lib.hid (by have h := HON.out; rw [HNUM.out ea] at h; exact h)
          obtain ⟨ng, nc', hsh, hnc, hncm, hng, hn0, hn1⟩ := HON.out.two
          have hv : numsOf [p0, p1] = [X, Y] := HNUM.out ea
          injection hsh with hs1 hs2 hs3
          subst hs1
          rw [hv]
          rw [show [X, Y].length = 2 from rfl]
          have HLN := Lib.hid hncm
          have HGG := Lib.hid (show CfgOk X Y R1 R2 ∨ ¬ CfgOk X Y R1 R2 from Decidable.em _)
          have HBAD := Lib.hid (show ¬ CfgOk X Y R1 R2 → parCok s.data.toList = false ∧ parCx s.data.toList = 0 ∧ parCy s.data.toList = 0 ∧ parC1 s.data.toList = [] ∧ parC2 s.data.toList = [] from fun h => HNO.out (fun h' => h (HG.out.1 h').2.2.2))
          have HGOOD := Lib.hid (show CfgOk X Y R1 R2 → parCok s.data.toList = true ∧ parCx s.data.toList = X ∧ parCy s.data.toList = Y ∧ parC1 s.data.toList = R1 ∧ parC2 s.data.toList = R2 from fun h => by
            obtain ⟨h1, h2, h3, h4, h5⟩ := HYES.out h ea eb ec
            obtain ⟨k1, k2, k3, k4, k5⟩ := HY'.out h1
            exact ⟨k1, k2.trans h2, k3.trans h3, k4.trans h4, k5.trans h5⟩)
          clear hv hncm hs2 hs3 ea eb ec HYES HNO HY' HG HNUM HGG
          go_wp2_with fail
          obtain ⟨w4, rfl⟩ : ∃ q, q = w3 := ⟨_, rfl⟩
          have hR4 := HR.out.lt
          go_upto_region 9 with (fail)
          go_cut [11] (fun b wx => ∃ p, b = .pointer (some ⟨p, 0, none⟩) ∧ BoxC wx p 27 #[.int .i64 X, .int .i64 Y, .slice ra R1.length rc, .slice qa R2.length qc] ∧ w4.heap.size ≤ p ∧ Below w4.heap.size w4 wx)
          case first =>
            refine region_inv (m := 10) [49, 50, 51, 52, 53, 54, 55, 56, 57, 11] [] (Fs [isV (.slice (some ⟨ng, 0, none⟩) 2 nc), isV (.pointer (some ⟨ng, 0, none⟩)), isV (.int .i64 X), isV (.slice (some ⟨ng, 0, none⟩) 2 nc), isV (.pointer (some ⟨ng, 1, none⟩)), isV (.int .i64 Y), isV (.slice ra R1.length rc), isV (.slice qa R2.length qc), isV (.agg #[.int .i64 X, .int .i64 Y, .slice ra R1.length rc, .slice qa R2.length qc]), isC (w4.heap.size) 27 #[.int .i64 0, .int .i64 0, .slice none 0 0, .slice none 0 0]]) (by kernel_rfl) (by decide) rfl (by decide) (by kernel_rfl) (by kernel_rfl) (by kernel_rfl) (fun _ _ _ _ _ h => h) (Fs_mono ⟨isV_mono _, isV_mono _, isV_mono _, isV_mono _, isV_mono _, isV_mono _, isV_mono _, isV_mono _, isV_mono _, isC_mono _ _ _, trivial⟩) ?step ?float ?tail
            case float =>
              intro f hf
              cases hf
            case step =>
              intro i hi vs wq hBq hd
              rcases (show i = 0 ∨ i = 1 ∨ i = 2 ∨ i = 3 ∨ i = 4 ∨ i = 5 ∨ i = 6 ∨ i = 7 ∨ i = 8 ∨ i = 9 from by omega) with rfl | rfl | rfl | rfl | rfl | rfl | rfl | rfl | rfl | rfl
              · refine wpOp_step (o := _) rfl (fun K' hK => ?_)
                have HK := Lib.hid hK
                clear hK
                simp only [lay, Act.put, List.setIfInBounds_toArray, List.set_cons_zero, List.set_cons_succ, List.getD_cons_zero, List.getD_cons_succ, id_eq]
                go_simp
                refine HK.out _ _ ⟨_, ?_, Below.refl _ _, rfl⟩
                simp only [lay, Act.put, List.setIfInBounds_toArray, List.set_cons_zero, List.set_cons_succ, List.getD_cons_zero, List.getD_cons_succ, id_eq]
              · have e0' : vs 0 = .slice (some ⟨ng, 0, none⟩) 2 nc := hd 0 (List.contains_iff_mem.1 (by kernel_rfl))
                refine wpOp_step (o := _) rfl (fun K' hK => ?_)
                have HK := Lib.hid hK
                clear hK
                simp only [lay, Act.put, List.setIfInBounds_toArray, List.set_cons_zero, List.set_cons_succ, List.getD_cons_zero, List.getD_cons_succ, id_eq]
                rw [e0']
                go_simp
                refine HK.out _ _ ⟨_, ?_, Below.refl _ _, rfl⟩
                simp only [lay, Act.put, List.setIfInBounds_toArray, List.set_cons_zero, List.set_cons_succ, List.getD_cons_zero, List.getD_cons_succ, id_eq]
                rw [e0']
              · have e1' : vs 1 = .pointer (some ⟨ng, 0, none⟩) := hd 1 (List.contains_iff_mem.1 (by kernel_rfl))
                have z0 := (hBq.cell (p := ⟨ng, 0, none⟩) hng).trans hn0
                refine wpOp_step (o := _) rfl (fun K' hK => ?_)
                have HK := Lib.hid hK
                clear hK
                simp only [lay, Act.put, List.setIfInBounds_toArray, List.set_cons_zero, List.set_cons_succ, List.getD_cons_zero, List.getD_cons_succ, id_eq]
                rw [e1']
                go_simp
                refine HK.out _ _ ⟨_, ?_, Below.refl _ _, rfl⟩
                simp only [lay, Act.put, List.setIfInBounds_toArray, List.set_cons_zero, List.set_cons_succ, List.getD_cons_zero, List.getD_cons_succ, id_eq]
                rw [e1']
              · refine wpOp_step (o := _) rfl (fun K' hK => ?_)
                have HK := Lib.hid hK
                clear hK
                simp only [lay, Act.put, List.setIfInBounds_toArray, List.set_cons_zero, List.set_cons_succ, List.getD_cons_zero, List.getD_cons_succ, id_eq]
                go_simp
                refine HK.out _ _ ⟨_, ?_, Below.refl _ _, rfl⟩
                simp only [lay, Act.put, List.setIfInBounds_toArray, List.set_cons_zero, List.set_cons_succ, List.getD_cons_zero, List.getD_cons_succ, id_eq]
              · have e3' : vs 3 = .slice (some ⟨ng, 0, none⟩) 2 nc := hd 3 (List.contains_iff_mem.1 (by kernel_rfl))
                refine wpOp_step (o := _) rfl (fun K' hK => ?_)
                have HK := Lib.hid hK
                clear hK
                simp only [lay, Act.put, List.setIfInBounds_toArray, List.set_cons_zero, List.set_cons_succ, List.getD_cons_zero, List.getD_cons_succ, id_eq]
                rw [e3']
                go_simp
                refine HK.out _ _ ⟨_, ?_, Below.refl _ _, rfl⟩
                simp only [lay, Act.put, List.setIfInBounds_toArray, List.set_cons_zero, List.set_cons_succ, List.getD_cons_zero, List.getD_cons_succ, id_eq]
                rw [e3']
              · have e4' : vs 4 = .pointer (some ⟨ng, 1, none⟩) := hd 4 (List.contains_iff_mem.1 (by kernel_rfl))
                have z0 := (hBq.cell (p := ⟨ng, 1, none⟩) hng).trans hn1
                refine wpOp_step (o := _) rfl (fun K' hK => ?_)
                have HK := Lib.hid hK
                clear hK
                simp only [lay, Act.put, List.setIfInBounds_toArray, List.set_cons_zero, List.set_cons_succ, List.getD_cons_zero, List.getD_cons_succ, id_eq]
                rw [e4']
                go_simp
                refine HK.out _ _ ⟨_, ?_, Below.refl _ _, rfl⟩
                simp only [lay, Act.put, List.setIfInBounds_toArray, List.set_cons_zero, List.set_cons_succ, List.getD_cons_zero, List.getD_cons_succ, id_eq]
                rw [e4']
              · refine wpOp_step (o := _) rfl (fun K' hK => ?_)
                have HK := Lib.hid hK
                clear hK
                simp only [lay, Act.put, List.setIfInBounds_toArray, List.set_cons_zero, List.set_cons_succ, List.getD_cons_zero, List.getD_cons_succ, id_eq]
                go_simp
                refine HK.out _ _ ⟨_, ?_, Below.refl _ _, rfl⟩
                simp only [lay, Act.put, List.setIfInBounds_toArray, List.set_cons_zero, List.set_cons_succ, List.getD_cons_zero, List.getD_cons_succ, id_eq]
              · refine wpOp_step (o := _) rfl (fun K' hK => ?_)
                have HK := Lib.hid hK
                clear hK
                simp only [lay, Act.put, List.setIfInBounds_toArray, List.set_cons_zero, List.set_cons_succ, List.getD_cons_zero, List.getD_cons_succ, id_eq]
                go_simp
                refine HK.out _ _ ⟨_, ?_, Below.refl _ _, rfl⟩
                simp only [lay, Act.put, List.setIfInBounds_toArray, List.set_cons_zero, List.set_cons_succ, List.getD_cons_zero, List.getD_cons_succ, id_eq]
              · have e2' : vs 2 = .int .i64 X := hd 2 (List.contains_iff_mem.1 (by kernel_rfl))
                have e5' : vs 5 = .int .i64 Y := hd 5 (List.contains_iff_mem.1 (by kernel_rfl))
                have e6' : vs 6 = .slice ra R1.length rc := hd 6 (List.contains_iff_mem.1 (by kernel_rfl))
                have e7' : vs 7 = .slice qa R2.length qc := hd 7 (List.contains_iff_mem.1 (by kernel_rfl))
                refine wpOp_step (o := _) rfl (fun K' hK => ?_)
                have HK := Lib.hid hK
                clear hK
                simp only [lay, Act.put, List.setIfInBounds_toArray, List.set_cons_zero, List.set_cons_succ, List.getD_cons_zero, List.getD_cons_succ, id_eq]
                rw [e2', e5', e6', e7']
                go_simp
                refine HK.out _ _ ⟨_, ?_, Below.refl _ _, rfl⟩
                simp only [lay, Act.put, List.setIfInBounds_toArray, List.set_cons_zero, List.set_cons_succ, List.getD_cons_zero, List.getD_cons_succ, id_eq]
                rw [e2', e5', e6', e7']
              · refine wpOp_step (o := _) rfl (fun K' hK => ?_)
                have HK := Lib.hid hK
                clear hK
                simp only [lay, Act.put, List.setIfInBounds_toArray, List.set_cons_zero, List.set_cons_succ, List.getD_cons_zero, List.getD_cons_succ, id_eq]
                go_simp
                refine HK.out _ _ ⟨_, ?_, (Below.refl _ _).alloc (Nat.le_refl _) _, _, rfl, BoxC.new _ _ _, hBq.size⟩
                simp only [lay, Act.put, List.setIfInBounds_toArray, List.set_cons_zero, List.set_cons_succ, List.getD_cons_zero, List.getD_cons_succ, id_eq]
            case tail =>
              intro vs wq hBq hf
              have e8 : vs 8 = .agg #[.int .i64 X, .int .i64 Y, .slice ra R1.length rc, .slice qa R2.length qc] := hf 8 (by decide)
              obtain ⟨p9, e9, b9, n9⟩ : isC (w4.heap.size) 27 #[.int .i64 0, .int .i64 0, .slice none 0 0, .slice none 0 0] (vs 9) wq := hf 9 (by decide)
              simp only [lay, Act.put, List.setIfInBounds_toArray, List.set_cons_zero, List.set_cons_succ, List.getD_cons_zero, List.getD_cons_succ, id_eq]
              rw [e8, e9]
              clear e8 e9
              refine any_all (rs := [10]) (by kernel_rfl) (by simp) ?_
              intro i hi
              simp only [List.mem_cons, List.not_mem_nil, or_false] at hi
              subst hi
              refine wpOp_step (o := _) rfl (fun K' hK => ?_)
              have HK := Lib.hid hK
              clear hK
              have kc0 := b9.c 0 rfl
              have kf0 := b9.f 0
              have kc1 := b9.c 1 rfl
              have kf1 := b9.f 1
              have kc2 := b9.c 2 rfl
              have kf2 := b9.f 2
              have kc3 := b9.c 3 rfl
              have kf3 := b9.f 3
              go_simp
              refine HK.out _ _ ?_
              clear HK K' kc0 kf0 kc1 kf1 kc2 kf2 kc3 kf3
              try simp only [Act.put, List.setIfInBounds_toArray, List.set_cons_zero, List.set_cons_succ]
              have b9' := ((((b9.put 0 (.int .i64 X)).put 1 (.int .i64 Y)).put 2 (.slice ra R1.length rc)).put 3 (.slice qa R2.length qc))
              have hBq' := ((((hBq.setCell (p := ⟨p9, 0, none⟩) n9 (.int .i64 X)).setCell (p := ⟨p9, 1, none⟩) n9 (.int .i64 Y)).setCell (p := ⟨p9, 2, none⟩) n9 (.slice ra R1.length rc)).setCell (p := ⟨p9, 3, none⟩) n9 (.slice qa R2.length qc))
              refine any_done (by kernel_rfl) ?_ _
              go_wp2_with fail
              go_meet
              exact ⟨p9, rfl, b9', n9, hBq'⟩
          case rest =>
            obtain ⟨p, rfl, bp, hpw, hb⟩ := hcut
            replace HO2 := Lib.hid (HO2.out.later hb)
            replace HO3 := Lib.hid (HO3.out.later hb)
            replace HR := Lib.hid (HR.out.later hb)
            replace HB := Lib.hid (HB.out.trans (hb.mono hg3))
            have HQ := Lib.hid bp
            have hpn : w.heap.size ≠ p := Nat.ne_of_lt (Nat.lt_of_lt_of_le hR4 hpw)
            have jf := implIsValidConfig X Y _ _ _ _ R1 R2 wc (by omega) (by omega) HO2.out HO3.out
            clear hb bp hR4 hn0 hn1
            have q0 := HQ.out.c 0 rfl
            have q1 := HQ.out.c 1 rfl
            have q2 := HQ.out.c 2 rfl
            have q3 := HQ.out.c 3 rfl
            by_cases h5 : CfgOk X Y R1 R2
            · rw [show cfgOk X Y R1 R2 = true from decide_eq_true h5] at jf
              have HF := Lib.hid (HGOOD.out h5)
              have JF := Lib.hid jf
              clear jf h5
              go_wp2_with fail
              refine JF.out.mono ?_
              rintro e w5 ⟨rfl, hb⟩
              replace HO2 := Lib.hid (HO2.out.later hb)
              replace HO3 := Lib.hid (HO3.out.later hb)
              replace HR := Lib.hid (HR.out.later hb)
              replace HQ := Lib.hid (HQ.out.later hb)
              replace HB := Lib.hid (HB.out.trans (hb.mono HB.out.size))
              clear hb JF q0 q1 q2 q3
              have q0 := HQ.out.c 0 rfl
              have q1 := HQ.out.c 1 rfl
              have q2 := HQ.out.c 2 rfl
              have q3 := HQ.out.c 3 rfl
              have r0 := HR.out.c 0 rfl
              have r1 := HR.out.c 1 rfl
              have r2 := HR.out.c 2 rfl
              have r3 := HR.out.c 3 rfl
              have f0 := HR.out.f 0
              have f1 := HR.out.f 1
              have f2 := HR.out.f 2
              have f3 := HR.out.f 3
              go_wp2_with fail
              refine bodyPost_ret (v := .tuple #[.agg #[.int .i64 X, .int .i64 Y, .slice ra R1.length rc, .slice qa R2.length qc], .bool true]) (by simp [results, Tryd.results11, go_sem, r0, r1, r2, r3]) rfl ?_
              refine ⟨_, _, by rw [HF.out.1, HF.out.2.1, HF.out.2.2.1], ?_, ?_, ?_, HAP.out⟩
              · rw [HF.out.2.2.2.1]
                exact row_put (row_put (row_put (row_put HO2.out.row HR.out (by decide) 0 _) (HR.out.put 0 _) (by decide) 1 _) ((HR.out.put 0 _).put 1 _) (by decide) 2 _) (((HR.out.put 0 _).put 1 _).put 2 _) (by decide) 3 _
              · rw [HF.out.2.2.2.2]
                exact row_put (row_put (row_put (row_put HO3.out.row HR.out (by decide) 0 _) (HR.out.put 0 _) (by decide) 1 _) ((HR.out.put 0 _).put 1 _) (by decide) 2 _) (((HR.out.put 0 _).put 1 _).put 2 _) (by decide) 3 _
              · exact
                  (((HB.out.setCell (p := ⟨w.heap.size, 0, none⟩) (Nat.le_refl _) _).setCell (p := ⟨w.heap.size, 1, none⟩) (Nat.le_refl _) _).setCell (p := ⟨w.heap.size, 2, none⟩) (Nat.le_refl _) _).setCell (p := ⟨w.heap.size, 3, none⟩) (Nat.le_refl _) _
            · rw [show cfgOk X Y R1 R2 = false from decide_eq_false h5] at jf
              have HF := Lib.hid (HBAD.out h5)
              have JF := Lib.hid jf
              clear jf h5
              go_wp2_with fail
              refine JF.out.mono ?_
              rintro e w5 ⟨rfl, hb⟩
              replace HR := Lib.hid (HR.out.later hb)
              replace HB := Lib.hid (HB.out.trans (hb.mono HB.out.size))
              clear hb JF q0 q1 q2 q3
              have r0 := HR.out.c 0 rfl
              have r1 := HR.out.c 1 rfl
              have r2 := HR.out.c 2 rfl
              have r3 := HR.out.c 3 rfl
              have f0 := HR.out.f 0
              have f1 := HR.out.f 1
              have f2 := HR.out.f 2
              have f3 := HR.out.f 3
              go_wp2_with fail
              refine bodyPost_ret (v := .tuple #[.agg #[.int .i64 0, .int .i64 0, .slice none 0 0, .slice none 0 0], .bool false]) (by simp [results, Tryd.results11, go_sem, r0, r1, r2, r3]) rfl ?_
              refine ⟨_, _, by rw [HF.out.1, HF.out.2.1, HF.out.2.2.1], by rw [HF.out.2.2.2.1]; exact World.ownsRow_nil _ _ _ _, by rw [HF.out.2.2.2.2]; exact World.ownsRow_nil _ _ _ _, ?_, apart_nil _ _ _⟩
              exact
                (((HB.out.setCell (p := ⟨w.heap.size, 0, none⟩) (Nat.le_refl _) _).setCell (p := ⟨w.heap.size, 1, none⟩) (Nat.le_refl _) _).setCell (p := ⟨w.heap.size, 2, none⟩) (Nat.le_refl _) _).setCell (p := ⟨w.heap.size, 3, none⟩) (Nat.le_refl _) _
  · have HF := Lib.hid (HNO.out (fun h => h4 h.1))
    have g4 : ((ps.length : Int) != 4) = true := by rw [bne_iff_ne]; omega
    clear h4 hpl
    have r0 := HR.out.c 0 rfl
    have r1 := HR.out.c 1 rfl
    have r2 := HR.out.c 2 rfl
    have r3 := HR.out.c 3 rfl
    have f0 := HR.out.f 0
    have f1 := HR.out.f 1
    have f2 := HR.out.f 2
    have f3 := HR.out.f 3
    go_wp2_with fail
    refine bodyPost_ret (v := .tuple #[.agg #[.int .i64 0, .int .i64 0, .slice none 0 0, .slice none 0 0], .bool false]) (by simp [results, Tryd.results11, go_sem, r0, r1, r2, r3]) rfl ?_
    refine ⟨_, _, by rw [HF.out.1, HF.out.2.1, HF.out.2.2.1], by rw [HF.out.2.2.2.1]; exact World.ownsRow_nil _ _ _ _, by rw [HF.out.2.2.2.2]; exact World.ownsRow_nil _ _ _ _, ?_, apart_nil _ _ _⟩
    exact
      (((HB.out.setCell (p := ⟨w.heap.size, 0, none⟩) (Nat.le_refl _) _).setCell (p := ⟨w.heap.size, 1, none⟩) (Nat.le_refl _) _).setCell (p := ⟨w.heap.size, 2, none⟩) (Nat.le_refl _) _).setCell (p := ⟨w.heap.size, 3, none⟩) (Nat.le_refl _) _
end Go.Proofs.YtmojigimlhjphaaDoor.kit
