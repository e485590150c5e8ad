/-
  Chapter 7: what impl's ParseSnapshot returns.
-/
import Derived.Test.YtibpajlfcknegaaDoorS7MathN
import Derived.Test.YtibpajlfcknegaaDoorS4ParseM
import Derived.Test.YtibpajlfcknegaaDoorSplitW
import Derived.Test.YtibpajlfcknegaaDoorParseInts
import Derived.Test.YtibpajlfcknegaaDoorInvV
namespace Go.Proofs.YtibpajlfcknegaaDoor.kit
open Go.ChangeShapes Go.WideShapes Go.ChangeAt Go.RowKit
set_option linter.unusedVariables false
set_option linter.unusedSimpArgs false

theorem splitN (s : ByteArray) (w : World) (hs : s.size ≤ 1048576) (hM : Mx w) :
    Calls Tryd.prog 26 #[.string s, .string { data := #[44] }, .int .i64 3] w fun e w' => ∃ g cap, e = .returned (.slice (some ⟨g, 0, none⟩) (wordsN s.data.toList).length cap) ∧ (wordsN s.data.toList).length ≤ cap ∧ cap ≤ 3 ∧ w.heap.size ≤ g ∧
      PartsAt w' g (wordsN s.data.toList) ∧ Below w.heap.size w w' := splitWords 44 2 (by omega) s w hs hM
set_option maxRecDepth 100000 in
set_option maxHeartbeats 16000000 in
theorem implParseSnapshot (s : ByteArray) (w : World) (hs : s.size ≤ 1048576) (hT : Tab w) (hM : Mx w) :
    Calls Tryd.prog 12 #[.string s] w fun e w' => ∃ u1 u2, e = .returned (.tuple #[.agg #[.int .i64 (parNx s.data.toList), .int .i64 (parNy s.data.toList), u1, u2], .bool (parNok s.data.toList)]) ∧ OwnI w.heap.size w' u1 (parNO s.data.toList) ∧ OwnS w.heap.size w' u2 (parNX s.data.toList) ∧ Below w.heap.size w w' := by
  have hl : s.data.toList.length = s.size := by rw [Array.length_toList]; rfl
  have hpl : ∀ j, ((wordsN s.data.toList).getD j []).length ≤ s.size := fun j => by
    rcases Nat.lt_or_ge j (wordsN s.data.toList).length with h | h
    · have hm : (wordsN s.data.toList).getD j [] ∈ wordsN s.data.toList := by simp [List.getD, h]
      have := split_mem 44 _ _ _ hm
      omega
    · simp [List.getD, h]
  obtain ⟨W, hW⟩ : ∃ W, W = w.alloc (.cells #[.int .i64 0, .int .i64 0, .slice none 0 0, .slice none 0 0] 32) := ⟨_, rfl⟩
  have HB := Lib.hid (show Below w.heap.size w W by rw [hW]; exact (Below.refl _ _).alloc (Nat.le_refl _) _)
  have HR := Lib.hid (show BoxC W w.heap.size 32 #[.int .i64 0, .int .i64 0, .slice none 0 0, .slice none 0 0] by rw [hW]; exact BoxC.new _ _ _)
  have hWs : W.heap.size = w.heap.size + 1 := by rw [hW]; simp
  have HW := Lib.hid hW
  have HT := Lib.hid (fun W' (h : Below w.heap.size w W') => hT.below h)
  have HMX := Lib.hid (fun W' (h : Below w.heap.size w W') => hM.below h)
  have JC := Lib.hid (splitN s W hs (hM.below HB.out))
  have HYES := Lib.hid (fun h => snap_yes (s := s.data.toList) h)
  have HNO := Lib.hid (fun h => parN_no (snap_no (s := s.data.toList) h))
  have HY' := Lib.hid (fun h => parN_yes (s := s.data.toList) h)
  clear hl hW hT hM
  go_enter Tryd.func12, Tryd.ntmps12
  go_wp2_with fail
  rw [← HW.out]
  refine JC.out.mono ?_
  rintro e w1 ⟨g, cap, rfl, hn, hc4, hgw, hp, hb⟩
  clear JC HW
  have HP := Lib.hid hp
  replace HR := Lib.hid (HR.out.later hb)
  have hg0 : w.heap.size ≤ w1.heap.size := by have := hb.size; omega
  replace HB := Lib.hid (HB.out.trans (hb.mono HB.out.size))
  clear hp hb
  generalize wordsN s.data.toList = ps at *
  by_cases h4 : ps.length = 3
  · obtain ⟨p0, p1, p2, rfl⟩ := three h4
    have hq0 := hpl 0
    have hq1 := hpl 1
    have hq2 := hpl 2
    simp only [List.getD_cons_zero, List.getD_cons_succ] at hq0 hq1 hq2
    have hp0' : p0.length ≤ 1048576 := Nat.le_trans hq0 hs
    have hp1 : p1.length ≤ 1048576 := Nat.le_trans hq1 hs
    have hp2 : p2.length ≤ 1048576 := Nat.le_trans hq2 hs
    have HL := Lib.hid (show [p0, p1, p2].length = 3 from rfl)
    rw [HL.out] at hn
    have hc2 : (2 : Int) ≤ (cap : Int) := by omega
    have hc2' : 2 ≤ cap := by omega
    rw [HL.out]
    have HG := Lib.hid (show goodN [p0, p1, p2] ↔ (allPar [p0, p1] = true ∧ parMok p2 = true ∧ NOk (parN p0) (parN p1) (parMO p2) (parMX p2)) from ⟨fun h => h.2, fun h => ⟨rfl, h⟩⟩)
    replace HYES := Lib.hid (show NOk (parN p0) (parN p1) (parMO p2) (parMX p2) → allPar [p0, p1] = true → parMok p2 = true → okPN s.data.toList ∧ nx s.data.toList = parN p0 ∧ ny s.data.toList = parN p1 ∧ nO s.data.toList = parMO p2 ∧ nX s.data.toList = parMX p2 from fun a b c => HYES.out (HG.out.2 ⟨b, c, a⟩))
    have j2 := fun W (h : Below w.heap.size w W) => implParseMachine ⟨p2.toArray⟩ W (by rw [size_mk]; exact hp2) (HT.out _ h) (HMX.out _ h)
    simp only at j2
    have l1 := parMO_len p2
    have l2 := parMX_len p2
    have hat : AtP w1 (some ⟨g, 0, none⟩) [p0, p1] := fun j hj => by
      refine ⟨_, rfl, HP.out.lt, ?_⟩
      have hadd : (⟨g, 0, none⟩ : Addr).add j = ⟨g, j, none⟩ := by unfold Addr.add; split <;> simp_all
      rw [hadd]
      match j, hj with
      | 0, _ => exact HP.out.2 0 (by rw [HL.out]; decide)
      | 1, _ => exact HP.out.2 1 (by rw [HL.out]; decide)
    have JP := Lib.hid (parseInts (some ⟨g, 0, none⟩) 2 cap [p0, p1] w1 rfl (by omega) (fun j => by
      match j with
      | 0 => exact hp0'
      | 1 => exact hp1
      | n + 2 => simp) hat (HT.out _ HB.out))
    have hnum : allPar [p0, p1] = true → numsOf [p0, p1] = [parN p0, parN p1] := fun h => by unfold numsOf; rw [if_pos h]; rfl
    have HNUM := Lib.hid hnum
    generalize parN p0 = X at *
    generalize parN p1 = Y at *
    generalize parMO p2 = R1 at *
    generalize parMX p2 = R2 at *
    have J2 := Lib.hid j2
    clear h4 hq0 hq1 hq2 hpl j2 hat hnum
    go_wp2_with fail
    refine JP.out.mono ?_
    rintro e wa ⟨vn, rfl, hon, hbn⟩
    have HON := Lib.hid hon
    replace HP := Lib.hid (HP.out.later hbn)
    replace HR := Lib.hid (HR.out.later hbn)
    replace HB := Lib.hid (HB.out.trans (hbn.mono hg0))
    have hga := Nat.le_trans hg0 hbn.size
    obtain ⟨na, nc, rfl⟩ := hon.shape
    have c2' := HP.out.2 2 (by rw [HL.out]; decide)
    simp only [List.getD_cons_zero, List.getD_cons_succ] at c2'
    clear hon hbn JP
    go_wp2_with fail
    refine (J2.out _ HB.out).mono ?_
    rintro e w2 ⟨v2, v3, rfl, ho2, ho3, hb2⟩
    obtain ⟨ra, rc, rfl⟩ := ho2.shape
    obtain ⟨qa, qc, rfl⟩ := ho3.shape
    have hbA := (Below.refl w2.heap.size w2).alloc (Nat.le_refl _) (.cells #[.slice ra R1.length rc, .slice qa R2.length qc] 25)
    have HMB := Lib.hid (BoxC.new w2 25 #[.slice ra R1.length rc, .slice qa R2.length qc])
    have HO2 := Lib.hid ((ho2.mono hga).later hbA)
    have HO3 := Lib.hid ((ho3.mono hga).later hbA)
    replace HON := Lib.hid ((HON.out.later hb2).later hbA)
    replace HR := Lib.hid ((HR.out.later hb2).later hbA)
    replace HB := Lib.hid ((HB.out.trans (hb2.mono hga)).trans (hbA.mono (Nat.le_trans hga hb2.size)))
    have hg3 := HB.out.size
    obtain ⟨pm, hpm⟩ : ∃ q, q = w2.heap.size := ⟨_, rfl⟩
    obtain ⟨w3, hw3⟩ : ∃ q, q = w2.alloc (.cells #[.slice ra R1.length rc, .slice qa R2.length qc] 25) := ⟨_, rfl⟩
    rw [← hw3] at HR HB HO2 HO3 HON HMB hg3
    rw [← hpm] at HMB
    have HW3 := Lib.hid hw3
    have HPM := Lib.hid hpm
    clear ho2 ho3 hb2 hbA J2 c2' HP hw3 hpm
    go_upto_region 6 with (fail)
    rw [← HW3.out, ← HPM.out]
    clear HW3 HPM
    cases ea : allPar [p0, p1] with
    | false =>
      have eb : True := trivial
      have HF := Lib.hid (HNO.out (fun h => by have h' := HG.out.1 h; simp [ea, eb] at h'))
      clear ea eb
      have r0 := HR.out.c 0 rfl
      have r1 := HR.out.c 1 rfl
      have r2 := HR.out.c 2 rfl
      have r3 := HR.out.c 3 rfl
      have f0 := HR.out.f 0
      have f1 := HR.out.f 1
      have f2 := HR.out.f 2
      have f3 := HR.out.f 3
      go_wp2_with fail
      refine bodyPost_ret (v := .tuple #[.agg #[.int .i64 0, .int .i64 0, .slice none 0 0, .slice none 0 0], .bool false]) (by simp [results, Tryd.results12, go_sem, r0, r1, r2, r3]) rfl ?_
      refine ⟨_, _, by rw [HF.out.1, HF.out.2.1, HF.out.2.2.1], by rw [HF.out.2.2.2.1]; exact World.ownsRow_nil _ _ _ _, by rw [HF.out.2.2.2.2]; exact World.ownsRow_nil _ _ _ _, ?_⟩
      exact
        (((HB.out.setCell (p := ⟨w.heap.size, 0, none⟩) (Nat.le_refl _) _).setCell (p := ⟨w.heap.size, 1, none⟩) (Nat.le_refl _) _).setCell (p := ⟨w.heap.size, 2, none⟩) (Nat.le_refl _) _).setCell (p := ⟨w.heap.size, 3, none⟩) (Nat.le_refl _) _
    | true =>
      cases eb : parMok p2 with
      | false =>
        have HF := Lib.hid (HNO.out (fun h => by have h' := HG.out.1 h; simp [ea, eb] at h'))
        clear ea eb
        have r0 := HR.out.c 0 rfl
        have r1 := HR.out.c 1 rfl
        have r2 := HR.out.c 2 rfl
        have r3 := HR.out.c 3 rfl
        have f0 := HR.out.f 0
        have f1 := HR.out.f 1
        have f2 := HR.out.f 2
        have f3 := HR.out.f 3
        go_wp2_with fail
        refine bodyPost_ret (v := .tuple #[.agg #[.int .i64 0, .int .i64 0, .slice none 0 0, .slice none 0 0], .bool false]) (by simp [results, Tryd.results12, go_sem, r0, r1, r2, r3]) rfl ?_
        refine ⟨_, _, by rw [HF.out.1, HF.out.2.1, HF.out.2.2.1], by rw [HF.out.2.2.2.1]; exact World.ownsRow_nil _ _ _ _, by rw [HF.out.2.2.2.2]; exact World.ownsRow_nil _ _ _ _, ?_⟩
        exact
          (((HB.out.setCell (p := ⟨w.heap.size, 0, none⟩) (Nat.le_refl _) _).setCell (p := ⟨w.heap.size, 1, none⟩) (Nat.le_refl _) _).setCell (p := ⟨w.heap.size, 2, none⟩) (Nat.le_refl _) _).setCell (p := ⟨w.heap.size, 3, none⟩) (Nat.le_refl _) _
      | true =>
        replace HON := Lib.hid (by have h := HON.out; rw [HNUM.out ea] at h; exact h)
        obtain ⟨ng, nc', hsh, hnc, hncm, hng, hn0, hn1⟩ := HON.out.two
        have hv : numsOf [p0, p1] = [X, Y] := HNUM.out ea
        injection hsh with hs1 hs2 hs3
        subst hs1
        rw [hv]
        rw [show [X, Y].length = 2 from rfl]
        have HLN := Lib.hid hncm
        have HBAD := Lib.hid (show ¬ NOk X Y R1 R2 → parNok s.data.toList = false ∧ parNx s.data.toList = 0 ∧ parNy s.data.toList = 0 ∧ parNO s.data.toList = [] ∧ parNX s.data.toList = [] from fun h => HNO.out (fun h' => h (HG.out.1 h').2.2))
        have HGOOD := Lib.hid (show NOk X Y R1 R2 → parNok s.data.toList = true ∧ parNx s.data.toList = X ∧ parNy s.data.toList = Y ∧ parNO s.data.toList = R1 ∧ parNX s.data.toList = R2 from fun h => by
          obtain ⟨h1, h2, h3, h4, h5⟩ := HYES.out h ea eb
          obtain ⟨k1, k2, k3, k4, k5⟩ := HY'.out h1
          exact ⟨k1, k2.trans h2, k3.trans h3, k4.trans h4, k5.trans h5⟩)
        clear hv hncm hs2 hs3 ea eb HYES HNO HY' HG HNUM
        go_wp2_with fail
        obtain ⟨w4, rfl⟩ : ∃ q, q = w3 := ⟨_, rfl⟩
        have hR4 := HR.out.lt
        go_upto_region 8 with (fail)
        go_cut [9] (fun b wx => ∃ p, b = .pointer (some ⟨p, 0, none⟩) ∧ BoxC wx p 32 #[.int .i64 X, .int .i64 Y, .slice ra R1.length rc, .slice qa R2.length qc] ∧ w4.heap.size ≤ p ∧ Below w4.heap.size w4 wx)
        case first =>
          refine region_inv (m := 9) [36, 37, 38, 39, 40, 41, 42, 43, 9] [] (Fs [isV (.slice (some ⟨ng, 0, none⟩) 2 nc), isV (.pointer (some ⟨ng, 0, none⟩)), isV (.int .i64 X), isV (.slice (some ⟨ng, 0, none⟩) 2 nc), isV (.pointer (some ⟨ng, 1, none⟩)), isV (.int .i64 Y), isV (.agg #[.slice ra R1.length rc, .slice qa R2.length qc]), isV (.agg #[.int .i64 X, .int .i64 Y, .slice ra R1.length rc, .slice qa R2.length qc]), isC (w4.heap.size) 32 #[.int .i64 0, .int .i64 0, .slice none 0 0, .slice none 0 0]]) (by kernel_rfl) (by decide) rfl (by decide) (by kernel_rfl) (by kernel_rfl) (by kernel_rfl) (fun _ _ _ _ _ h => h) (Fs_mono ⟨isV_mono _, isV_mono _, isV_mono _, isV_mono _, isV_mono _, isV_mono _, isV_mono _, isV_mono _, isC_mono _ _ _, trivial⟩) ?step ?float ?tail
          case float =>
            intro f hf
            cases hf
          case step =>
            intro i hi vs wq hBq hd
            rcases (show i = 0 ∨ i = 1 ∨ i = 2 ∨ i = 3 ∨ i = 4 ∨ i = 5 ∨ i = 6 ∨ i = 7 ∨ i = 8 from by omega) with rfl | rfl | rfl | rfl | rfl | rfl | rfl | rfl | rfl
            · refine wpOp_step (o := _) rfl (fun K' hK => ?_)
              have HK := Lib.hid hK
              clear hK
              simp only [lay, Act.put, List.setIfInBounds_toArray, List.set_cons_zero, List.set_cons_succ, List.getD_cons_zero, List.getD_cons_succ, id_eq]
              go_simp
              refine HK.out _ _ ⟨_, ?_, Below.refl _ _, rfl⟩
              simp only [lay, Act.put, List.setIfInBounds_toArray, List.set_cons_zero, List.set_cons_succ, List.getD_cons_zero, List.getD_cons_succ, id_eq]
            · have e0' : vs 0 = .slice (some ⟨ng, 0, none⟩) 2 nc := hd 0 (List.contains_iff_mem.1 (by kernel_rfl))
              refine wpOp_step (o := _) rfl (fun K' hK => ?_)
              have HK := Lib.hid hK
              clear hK
              simp only [lay, Act.put, List.setIfInBounds_toArray, List.set_cons_zero, List.set_cons_succ, List.getD_cons_zero, List.getD_cons_succ, id_eq]
              rw [e0']
              go_simp
              refine HK.out _ _ ⟨_, ?_, Below.refl _ _, rfl⟩
              simp only [lay, Act.put, List.setIfInBounds_toArray, List.set_cons_zero, List.set_cons_succ, List.getD_cons_zero, List.getD_cons_succ, id_eq]
              rw [e0']
            · have e1' : vs 1 = .pointer (some ⟨ng, 0, none⟩) := hd 1 (List.contains_iff_mem.1 (by kernel_rfl))
              have z0 := (hBq.cell (p := ⟨ng, 0, none⟩) hng).trans hn0
              refine wpOp_step (o := _) rfl (fun K' hK => ?_)
              have HK := Lib.hid hK
              clear hK
              simp only [lay, Act.put, List.setIfInBounds_toArray, List.set_cons_zero, List.set_cons_succ, List.getD_cons_zero, List.getD_cons_succ, id_eq]
              rw [e1']
              go_simp
              refine HK.out _ _ ⟨_, ?_, Below.refl _ _, rfl⟩
              simp only [lay, Act.put, List.setIfInBounds_toArray, List.set_cons_zero, List.set_cons_succ, List.getD_cons_zero, List.getD_cons_succ, id_eq]
              rw [e1']
            · refine wpOp_step (o := _) rfl (fun K' hK => ?_)
              have HK := Lib.hid hK
              clear hK
              simp only [lay, Act.put, List.setIfInBounds_toArray, List.set_cons_zero, List.set_cons_succ, List.getD_cons_zero, List.getD_cons_succ, id_eq]
              go_simp
              refine HK.out _ _ ⟨_, ?_, Below.refl _ _, rfl⟩
              simp only [lay, Act.put, List.setIfInBounds_toArray, List.set_cons_zero, List.set_cons_succ, List.getD_cons_zero, List.getD_cons_succ, id_eq]
            · have e3' : vs 3 = .slice (some ⟨ng, 0, none⟩) 2 nc := hd 3 (List.contains_iff_mem.1 (by kernel_rfl))
              refine wpOp_step (o := _) rfl (fun K' hK => ?_)
              have HK := Lib.hid hK
              clear hK
              simp only [lay, Act.put, List.setIfInBounds_toArray, List.set_cons_zero, List.set_cons_succ, List.getD_cons_zero, List.getD_cons_succ, id_eq]
              rw [e3']
              go_simp
              refine HK.out _ _ ⟨_, ?_, Below.refl _ _, rfl⟩
              simp only [lay, Act.put, List.setIfInBounds_toArray, List.set_cons_zero, List.set_cons_succ, List.getD_cons_zero, List.getD_cons_succ, id_eq]
              rw [e3']
            · have e4' : vs 4 = .pointer (some ⟨ng, 1, none⟩) := hd 4 (List.contains_iff_mem.1 (by kernel_rfl))
              have z0 := (hBq.cell (p := ⟨ng, 1, none⟩) hng).trans hn1
              refine wpOp_step (o := _) rfl (fun K' hK => ?_)
              have HK := Lib.hid hK
              clear hK
              simp only [lay, Act.put, List.setIfInBounds_toArray, List.set_cons_zero, List.set_cons_succ, List.getD_cons_zero, List.getD_cons_succ, id_eq]
              rw [e4']
              go_simp
              refine HK.out _ _ ⟨_, ?_, Below.refl _ _, rfl⟩
              simp only [lay, Act.put, List.setIfInBounds_toArray, List.set_cons_zero, List.set_cons_succ, List.getD_cons_zero, List.getD_cons_succ, id_eq]
              rw [e4']
            · have z0 := (HMB.out.later hBq).c 0 rfl
              have z1 := (HMB.out.later hBq).c 1 rfl
              refine wpOp_step (o := _) rfl (fun K' hK => ?_)
              have HK := Lib.hid hK
              clear hK
              simp only [lay, Act.put, List.setIfInBounds_toArray, List.set_cons_zero, List.set_cons_succ, List.getD_cons_zero, List.getD_cons_succ, id_eq]
              go_simp
              refine HK.out _ _ ⟨_, ?_, Below.refl _ _, rfl⟩
              simp only [lay, Act.put, List.setIfInBounds_toArray, List.set_cons_zero, List.set_cons_succ, List.getD_cons_zero, List.getD_cons_succ, id_eq]
            · have e2' : vs 2 = .int .i64 X := hd 2 (List.contains_iff_mem.1 (by kernel_rfl))
              have e5' : vs 5 = .int .i64 Y := hd 5 (List.contains_iff_mem.1 (by kernel_rfl))
              have e6' : vs 6 = .agg #[.slice ra R1.length rc, .slice qa R2.length qc] := hd 6 (List.contains_iff_mem.1 (by kernel_rfl))
              refine wpOp_step (o := _) rfl (fun K' hK => ?_)
              have HK := Lib.hid hK
              clear hK
              simp only [lay, Act.put, List.setIfInBounds_toArray, List.set_cons_zero, List.set_cons_succ, List.getD_cons_zero, List.getD_cons_succ, id_eq]
              rw [e2', e5', e6']
              go_simp
              refine HK.out _ _ ⟨_, ?_, Below.refl _ _, rfl⟩
              simp only [lay, Act.put, List.setIfInBounds_toArray, List.set_cons_zero, List.set_cons_succ, List.getD_cons_zero, List.getD_cons_succ, id_eq]
              rw [e2', e5', e6']
            · refine wpOp_step (o := _) rfl (fun K' hK => ?_)
              have HK := Lib.hid hK
              clear hK
              simp only [lay, Act.put, List.setIfInBounds_toArray, List.set_cons_zero, List.set_cons_succ, List.getD_cons_zero, List.getD_cons_succ, id_eq]
              go_simp
              refine HK.out _ _ ⟨_, ?_, (Below.refl _ _).alloc (Nat.le_refl _) _, _, rfl, BoxC.new _ _ _, hBq.size⟩
              simp only [lay, Act.put, List.setIfInBounds_toArray, List.set_cons_zero, List.set_cons_succ, List.getD_cons_zero, List.getD_cons_succ, id_eq]
          case tail =>
            intro vs wq hBq hf
            have e7 : vs 7 = .agg #[.int .i64 X, .int .i64 Y, .slice ra R1.length rc, .slice qa R2.length qc] := hf 7 (by decide)
            obtain ⟨p8, e8, b8, n8⟩ : isC (w4.heap.size) 32 #[.int .i64 0, .int .i64 0, .slice none 0 0, .slice none 0 0] (vs 8) wq := hf 8 (by decide)
            simp only [lay, Act.put, List.setIfInBounds_toArray, List.set_cons_zero, List.set_cons_succ, List.getD_cons_zero, List.getD_cons_succ, id_eq]
            rw [e7, e8]
            clear e7 e8
            refine any_all (rs := [9]) (by kernel_rfl) (by simp) ?_
            intro i hi
            simp only [List.mem_cons, List.not_mem_nil, or_false] at hi
            subst hi
            refine wpOp_step (o := _) rfl (fun K' hK => ?_)
            have HK := Lib.hid hK
            clear hK
            have kc0 := b8.c 0 rfl
            have kf0 := b8.f 0
            have kc1 := b8.c 1 rfl
            have kf1 := b8.f 1
            have kc2 := b8.c 2 rfl
            have kf2 := b8.f 2
            have kc3 := b8.c 3 rfl
            have kf3 := b8.f 3
            go_simp
            refine HK.out _ _ ?_
            clear HK K' kc0 kf0 kc1 kf1 kc2 kf2 kc3 kf3
            try simp only [Act.put, List.setIfInBounds_toArray, List.set_cons_zero, List.set_cons_succ]
            have b8' := ((((b8.put 0 (.int .i64 X)).put 1 (.int .i64 Y)).put 2 (.slice ra R1.length rc)).put 3 (.slice qa R2.length qc))
            have hBq' := ((((hBq.setCell (p := ⟨p8, 0, none⟩) n8 (.int .i64 X)).setCell (p := ⟨p8, 1, none⟩) n8 (.int .i64 Y)).setCell (p := ⟨p8, 2, none⟩) n8 (.slice ra R1.length rc)).setCell (p := ⟨p8, 3, none⟩) n8 (.slice qa R2.length qc))
            refine any_done (by kernel_rfl) ?_ _
            go_wp2_with fail
            go_meet
            exact ⟨p8, rfl, b8', n8, hBq'⟩
        case rest =>
          obtain ⟨p, rfl, bp, hpw, hb⟩ := hcut
          replace HO2 := Lib.hid (HO2.out.later hb)
          replace HO3 := Lib.hid (HO3.out.later hb)
          replace HR := Lib.hid (HR.out.later hb)
          replace HB := Lib.hid (HB.out.trans (hb.mono hg3))
          have HQ := Lib.hid bp
          have hpn : w.heap.size ≠ p := Nat.ne_of_lt (Nat.lt_of_lt_of_le hR4 hpw)
          have jf := implGood X Y _ _ _ _ R1 R2 wc (by omega) (by omega) HO2.out HO3.out
          clear hb bp hR4 hn0 hn1
          have q0 := HQ.out.c 0 rfl
          have q1 := HQ.out.c 1 rfl
          have q2 := HQ.out.c 2 rfl
          have q3 := HQ.out.c 3 rfl
          by_cases h5 : NOk X Y R1 R2
          · rw [decide_eq_true h5] at jf
            have HF := Lib.hid (HGOOD.out h5)
            have JF := Lib.hid jf
            clear jf h5
            go_wp2_with fail
            refine JF.out.mono ?_
            rintro e w5 ⟨rfl, hb⟩
            replace HO2 := Lib.hid (HO2.out.later hb)
            replace HO3 := Lib.hid (HO3.out.later hb)
            replace HR := Lib.hid (HR.out.later hb)
            replace HQ := Lib.hid (HQ.out.later hb)
            replace HB := Lib.hid (HB.out.trans (hb.mono HB.out.size))
            clear hb JF q0 q1 q2 q3
            have q0 := HQ.out.c 0 rfl
            have q1 := HQ.out.c 1 rfl
            have q2 := HQ.out.c 2 rfl
            have q3 := HQ.out.c 3 rfl
            have r0 := HR.out.c 0 rfl
            have r1 := HR.out.c 1 rfl
            have r2 := HR.out.c 2 rfl
            have r3 := HR.out.c 3 rfl
            have f0 := HR.out.f 0
            have f1 := HR.out.f 1
            have f2 := HR.out.f 2
            have f3 := HR.out.f 3
            go_wp2_with fail
            refine bodyPost_ret (v := .tuple #[.agg #[.int .i64 X, .int .i64 Y, .slice ra R1.length rc, .slice qa R2.length qc], .bool true]) (by simp [results, Tryd.results12, go_sem, r0, r1, r2, r3]) rfl ?_
            refine ⟨_, _, by rw [HF.out.1, HF.out.2.1, HF.out.2.2.1], ?_, ?_, ?_⟩
            · rw [HF.out.2.2.2.1]
              exact row_put (row_put (row_put (row_put HO2.out.row HR.out (by decide) 0 _) (HR.out.put 0 _) (by decide) 1 _) ((HR.out.put 0 _).put 1 _) (by decide) 2 _) (((HR.out.put 0 _).put 1 _).put 2 _) (by decide) 3 _
            · rw [HF.out.2.2.2.2]
              exact row_put (row_put (row_put (row_put HO3.out.row HR.out (by decide) 0 _) (HR.out.put 0 _) (by decide) 1 _) ((HR.out.put 0 _).put 1 _) (by decide) 2 _) (((HR.out.put 0 _).put 1 _).put 2 _) (by decide) 3 _
            · exact
                (((HB.out.setCell (p := ⟨w.heap.size, 0, none⟩) (Nat.le_refl _) _).setCell (p := ⟨w.heap.size, 1, none⟩) (Nat.le_refl _) _).setCell (p := ⟨w.heap.size, 2, none⟩) (Nat.le_refl _) _).setCell (p := ⟨w.heap.size, 3, none⟩) (Nat.le_refl _) _
          · rw [decide_eq_false h5] at jf
            have HF := Lib.hid (HBAD.out h5)
            have JF := Lib.hid jf
            clear jf h5
            go_wp2_with fail
            refine JF.out.mono ?_
            rintro e w5 ⟨rfl, hb⟩
            replace HR := Lib.hid (HR.out.later hb)
            replace HB := Lib.hid (HB.out.trans (hb.mono HB.out.size))
            clear hb JF q0 q1 q2 q3
            have r0 := HR.out.c 0 rfl
            have r1 := HR.out.c 1 rfl
            have r2 := HR.out.c 2 rfl
            have r3 := HR.out.c 3 rfl
            have f0 := HR.out.f 0
            have f1 := HR.out.f 1
            have f2 := HR.out.f 2
            have f3 := HR.out.f 3
            go_wp2_with fail
            refine bodyPost_ret (v := .tuple #[.agg #[.int .i64 0, .int .i64 0, .slice none 0 0, .slice none 0 0], .bool false]) (by simp [results, Tryd.results12, go_sem, r0, r1, r2, r3]) rfl ?_
            refine ⟨_, _, by rw [HF.out.1, HF.out.2.1, HF.out.2.2.1], by rw [HF.out.2.2.2.1]; exact World.ownsRow_nil _ _ _ _, by rw [HF.out.2.2.2.2]; exact World.ownsRow_nil _ _ _ _, ?_⟩
            exact
              (((HB.out.setCell (p := ⟨w.heap.size, 0, none⟩) (Nat.le_refl _) _).setCell (p := ⟨w.heap.size, 1, none⟩) (Nat.le_refl _) _).setCell (p := ⟨w.heap.size, 2, none⟩) (Nat.le_refl _) _).setCell (p := ⟨w.heap.size, 3, none⟩) (Nat.le_refl _) _
  · have HF := Lib.hid (HNO.out (fun h => h4 h.1))
    have g4 : ((ps.length : Int) != 3) = true := by rw [bne_iff_ne]; omega
    clear h4 hpl
    have r0 := HR.out.c 0 rfl
    have r1 := HR.out.c 1 rfl
    have r2 := HR.out.c 2 rfl
    have r3 := HR.out.c 3 rfl
    have f0 := HR.out.f 0
    have f1 := HR.out.f 1
    have f2 := HR.out.f 2
    have f3 := HR.out.f 3
    go_wp2_with fail
    refine bodyPost_ret (v := .tuple #[.agg #[.int .i64 0, .int .i64 0, .slice none 0 0, .slice none 0 0], .bool false]) (by simp [results, Tryd.results12, go_sem, r0, r1, r2, r3]) rfl ?_
    refine ⟨_, _, by rw [HF.out.1, HF.out.2.1, HF.out.2.2.1], by rw [HF.out.2.2.2.1]; exact World.ownsRow_nil _ _ _ _, by rw [HF.out.2.2.2.2]; exact World.ownsRow_nil _ _ _ _, ?_⟩
    exact
      (((HB.out.setCell (p := ⟨w.heap.size, 0, none⟩) (Nat.le_refl _) _).setCell (p := ⟨w.heap.size, 1, none⟩) (Nat.le_refl _) _).setCell (p := ⟨w.heap.size, 2, none⟩) (Nat.le_refl _) _).setCell (p := ⟨w.heap.size, 3, none⟩) (Nat.le_refl _) _
end Go.Proofs.YtibpajlfcknegaaDoor.kit
