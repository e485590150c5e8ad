/-
  Chapter 8: what spec's ParseConfig returns.
-/
import Derived.Test.YtmojigimlhjphaaDoorS8Fmt
import Derived.Test.YtmojigimlhjphaaDoorS8Math
import Derived.Test.YtmojigimlhjphaaDoorParts
import Derived.Test.YtmojigimlhjphaaDoorInvV
import Derived.Test.YtmojigimlhjphaaDoorS2Parse
namespace Go.Proofs.YtmojigimlhjphaaDoor.kit
open Go.ChangeShapes Go.WideShapes Go.ChangeAt Go.RowKit
set_option linter.unusedVariables false
set_option linter.unusedSimpArgs false

theorem four {α : Type} {L : List α} (h : L.length = 4) : ∃ a b c d, L = [a, b, c, d] := by
  match L, h with
  | [a, b, c, d], _ => exact ⟨a, b, c, d, rfl⟩
set_option maxRecDepth 100000 in
set_option maxHeartbeats 16000000 in
theorem specParseConfig (s : ByteArray) (w : World) (hs : s.size ≤ 1048576) :
    Calls Tryd.prog 10 #[.string s] w fun e w' => ∃ u1 u2, e = .returned (.tuple #[.agg #[.int .i64 (parCx s.data.toList), .int .i64 (parCy s.data.toList), u1, u2], .bool (parCok s.data.toList)]) ∧ OwnI w.heap.size w' u1 (parC1 s.data.toList) ∧ OwnI w.heap.size w' u2 (parC2 s.data.toList) ∧ Below w.heap.size w w' ∧ Apart u1 u2 := by
  have hl : s.data.toList.length = s.size := by rw [Array.length_toList]; rfl
  have hpl := fun j => cuts_getD (x := 32) (l := s.data.toList) j
  rw [hl] at hpl
  have hp0 := List.length_pos_iff.2 (cuts_ne 32 s.data.toList)
  obtain ⟨W, hW⟩ : ∃ W, W = w.alloc (.cells #[.int .i64 0, .int .i64 0, .slice none 0 0, .slice none 0 0] 27) := ⟨_, rfl⟩
  have HB := Lib.hid (show Below w.heap.size w W by rw [hW]; exact (Below.refl _ _).alloc (Nat.le_refl _) _)
  have HR := Lib.hid (show BoxC W w.heap.size 27 #[.int .i64 0, .int .i64 0, .slice none 0 0, .slice none 0 0] by rw [hW]; exact BoxC.new _ _ _)
  have hWs : W.heap.size = w.heap.size + 1 := by rw [hW]; simp
  have HW := Lib.hid hW
  have JC := Lib.hid (cutEvery s 32 32 rfl W hs)
  clear hl hW
  go_enter Tryd.func10, Tryd.ntmps10
  go_wp2_with fail
  rw [← HW.out]
  refine JC.out.mono ?_
  rintro e w1 ⟨v, rfl, ho, hb⟩
  clear JC HW
  obtain ⟨g, cap, rfl, hn, hm, hp⟩ := parts_of ho hp0
  unfold maxLen at hm
  have HP := Lib.hid hp
  replace HR := Lib.hid (HR.out.later hb)
  have hg0 : w.heap.size ≤ w1.heap.size := by have := hb.size; omega
  replace HB := Lib.hid (HB.out.trans (hb.mono HB.out.size))
  clear ho hp hb
  by_cases h4 : (cuts 32 s.data.toList).length = 4
  · have HX := Lib.hid (show cx s.data.toList = numL ((cuts 32 s.data.toList).getD 0 []) from rfl)
    have HY := Lib.hid (show cy s.data.toList = numL ((cuts 32 s.data.toList).getD 1 []) from rfl)
    have H1 := Lib.hid (show c1 s.data.toList = parseS ((cuts 32 s.data.toList).getD 2 []) from rfl)
    have H2 := Lib.hid (show c2 s.data.toList = parseS ((cuts 32 s.data.toList).getD 3 []) from rfl)
    have HOK := Lib.hid (show okPC s.data.toList ↔ fmtC (cx s.data.toList) (cy s.data.toList) (c1 s.data.toList) (c2 s.data.toList) = s.data.toList from ⟨fun h => h.2, fun h => ⟨h4, h⟩⟩)
    have HY' := Lib.hid (fun h => parC_yes (s := s.data.toList) h)
    have HN' := Lib.hid (fun h => parC_no (s := s.data.toList) h)
    have hq0 := hpl 0
    have hq1 := hpl 1
    have hq2 := hpl 2
    have hq3 := hpl 3
    generalize cuts 32 s.data.toList = ps at *
    obtain ⟨p0, p1, p2, p3, rfl⟩ := four h4
    simp only [List.getD_cons_zero, List.getD_cons_succ] at HX HY H1 H2 hq0 hq1 hq2 hq3
    have hp0' : p0.length ≤ 1048576 := Nat.le_trans hq0 hs
    have hp1 : p1.length ≤ 1048576 := Nat.le_trans hq1 hs
    have hp2 : p2.length ≤ 1048576 := Nat.le_trans hq2 hs
    have hp3 : p3.length ≤ 1048576 := Nat.le_trans hq3 hs
    have HL := Lib.hid (show [p0, p1, p2, p3].length = 4 from rfl)
    rw [HL.out]
    have j2 := fun W => specParseServers ⟨p2.toArray⟩ W (by rw [size_mk]; exact hp2)
    have j3 := fun W => specParseServers ⟨p3.toArray⟩ W (by rw [size_mk]; exact hp3)
    simp only at j2 j3
    rw [← H1.out] at j2
    rw [← H2.out] at j3
    have l1 : (c1 s.data.toList).length ≤ 1048576 := by rw [H1.out]; have := parseS_len5 p2; omega
    have l2 : (c2 s.data.toList).length ≤ 1048576 := by rw [H2.out]; have := parseS_len5 p3; omega
    generalize c1 s.data.toList = R1 at *
    generalize c2 s.data.toList = R2 at *
    have J2 := Lib.hid j2
    have J3 := Lib.hid j3
    have c2' := HP.out.2 2 (by rw [HL.out]; decide)
    have c3' := HP.out.2 3 (by rw [HL.out]; decide)
    simp only [List.getD_cons_zero, List.getD_cons_succ] at c2' c3'
    clear h4 hq0 hq1 hq2 hq3 hpl j2 j3 hp0
    go_wp2_with fail
    refine (J2.out _).mono ?_
    rintro e w2 ⟨v2, rfl, ho2, hb2⟩
    obtain ⟨ra, rc, rfl⟩ := ho2.shape
    have HO2 := Lib.hid ho2
    replace HP := Lib.hid (HP.out.later hb2)
    replace HR := Lib.hid (HR.out.later hb2)
    replace HB := Lib.hid (HB.out.trans (hb2.mono hg0))
    have hg2 := Nat.le_trans hg0 hb2.size
    clear ho2 hb2 J2 c2' c3'
    have c3' := HP.out.2 3 (by rw [HL.out]; decide)
    simp only [List.getD_cons_zero, List.getD_cons_succ] at c3'
    go_wp2_with fail
    refine (J3.out _).mono ?_
    rintro e w3 ⟨v3, rfl, ho3, hb3⟩
    have HAP := Lib.hid (apart_of HO2.out ho3 (Nat.le_refl _))
    obtain ⟨qa, qc, rfl⟩ := ho3.shape
    have HO3 := Lib.hid (ho3.mono hg2)
    replace HO2 := Lib.hid ((HO2.out.later hb3).mono hg0)
    replace HP := Lib.hid (HP.out.later hb3)
    replace HR := Lib.hid (HR.out.later hb3)
    replace HB := Lib.hid (HB.out.trans (hb3.mono hg2))
    have hg3 := Nat.le_trans hg2 hb3.size
    have hR3 := HR.out.lt
    clear ho3 hb3 J3 c3'
    go_wp2_with fail
    go_upto_region 6 with (fail)
    go_cut [9] (fun b wx => ∃ p, b = .pointer (some ⟨p, 0, none⟩) ∧ BoxC wx p 27 #[.int .i64 (numL p0), .int .i64 (numL p1), .slice ra R1.length rc, .slice qa R2.length qc] ∧ w3.heap.size ≤ p ∧ Below w3.heap.size w3 wx)
    case first =>
      refine region_inv (m := 12) [30, 31, 32, 33, 34, 35, 36, 37, 38, 39, 40, 9] [] (Fs [isV (.slice (some ⟨g, 0, none⟩) 4 cap), isV (.pointer (some ⟨g, 0, none⟩)), isV (str p0), isV (.int .i64 (numL p0)), isV (.slice (some ⟨g, 0, none⟩) 4 cap), isV (.pointer (some ⟨g, 1, none⟩)), isV (str p1), isV (.int .i64 (numL p1)), isV (.slice ra R1.length rc), isV (.slice qa R2.length qc), isV (.agg #[.int .i64 (numL p0), .int .i64 (numL p1), .slice ra R1.length rc, .slice qa R2.length qc]), isC (w3.heap.size) 27 #[.int .i64 0, .int .i64 0, .slice none 0 0, .slice none 0 0]]) (by kernel_rfl) (by decide) rfl (by decide) (by kernel_rfl) (by kernel_rfl) (by kernel_rfl) (fun _ _ _ _ _ h => h) (Fs_mono ⟨isV_mono _, isV_mono _, isV_mono _, isV_mono _, isV_mono _, isV_mono _, isV_mono _, isV_mono _, isV_mono _, isV_mono _, isV_mono _, isC_mono _ _ _, trivial⟩) ?step ?float ?tail
      case float =>
        intro f hf
        cases hf
      case step =>
        intro i hi vs wq hBq hd
        rcases (show i = 0 ∨ i = 1 ∨ i = 2 ∨ i = 3 ∨ i = 4 ∨ i = 5 ∨ i = 6 ∨ i = 7 ∨ i = 8 ∨ i = 9 ∨ i = 10 ∨ i = 11 from by omega) with rfl | rfl | rfl | rfl | rfl | rfl | rfl | rfl | rfl | rfl | rfl | rfl
        · refine wpOp_step (o := _) rfl (fun K' hK => ?_)
          have HK := Lib.hid hK
          clear hK
          simp only [lay, Act.put, List.setIfInBounds_toArray, List.set_cons_zero, List.set_cons_succ, List.getD_cons_zero, List.getD_cons_succ, id_eq]
          go_simp
          refine HK.out _ _ ⟨_, ?_, Below.refl _ _, rfl⟩
          simp only [lay, Act.put, List.setIfInBounds_toArray, List.set_cons_zero, List.set_cons_succ, List.getD_cons_zero, List.getD_cons_succ, id_eq]
        · have e0' : vs 0 = .slice (some ⟨g, 0, none⟩) 4 cap := hd 0 (List.contains_iff_mem.1 (by kernel_rfl))
          refine wpOp_step (o := _) rfl (fun K' hK => ?_)
          have HK := Lib.hid hK
          clear hK
          simp only [lay, Act.put, List.setIfInBounds_toArray, List.set_cons_zero, List.set_cons_succ, List.getD_cons_zero, List.getD_cons_succ, id_eq]
          rw [e0']
          go_simp
          refine HK.out _ _ ⟨_, ?_, Below.refl _ _, rfl⟩
          simp only [lay, Act.put, List.setIfInBounds_toArray, List.set_cons_zero, List.set_cons_succ, List.getD_cons_zero, List.getD_cons_succ, id_eq]
          rw [e0']
        · have e1' : vs 1 = .pointer (some ⟨g, 0, none⟩) := hd 1 (List.contains_iff_mem.1 (by kernel_rfl))
          have z0 := (HP.out.later hBq).2 0 (by rw [HL.out]; decide)
          refine wpOp_step (o := _) rfl (fun K' hK => ?_)
          have HK := Lib.hid hK
          clear hK
          simp only [lay, Act.put, List.setIfInBounds_toArray, List.set_cons_zero, List.set_cons_succ, List.getD_cons_zero, List.getD_cons_succ, id_eq]
          rw [e1']
          go_simp
          refine HK.out _ _ ⟨_, ?_, Below.refl _ _, rfl⟩
          simp only [lay, Act.put, List.setIfInBounds_toArray, List.set_cons_zero, List.set_cons_succ, List.getD_cons_zero, List.getD_cons_succ, id_eq]
          rw [e1']
        · have e2' : vs 2 = str p0 := hd 2 (List.contains_iff_mem.1 (by kernel_rfl))
          refine wpOp_step (o := _) rfl (fun K' hK => ?_)
          have HK := Lib.hid hK
          clear hK
          simp only [lay, Act.put, List.setIfInBounds_toArray, List.set_cons_zero, List.set_cons_succ, List.getD_cons_zero, List.getD_cons_succ, id_eq]
          rw [e2']
          go_simp
          go_at_call 24
          refine (numFromM p0 wq hp0').mono ?_
          rintro e w2 ⟨rfl, hb⟩
          refine HK.out _ _ ⟨_, ?_, hb, rfl⟩
          simp only [lay, Act.put, List.setIfInBounds_toArray, List.set_cons_zero, List.set_cons_succ, List.getD_cons_zero, List.getD_cons_succ, id_eq]
          rw [e2']
        · refine wpOp_step (o := _) rfl (fun K' hK => ?_)
          have HK := Lib.hid hK
          clear hK
          simp only [lay, Act.put, List.setIfInBounds_toArray, List.set_cons_zero, List.set_cons_succ, List.getD_cons_zero, List.getD_cons_succ, id_eq]
          go_simp
          refine HK.out _ _ ⟨_, ?_, Below.refl _ _, rfl⟩
          simp only [lay, Act.put, List.setIfInBounds_toArray, List.set_cons_zero, List.set_cons_succ, List.getD_cons_zero, List.getD_cons_succ, id_eq]
        · have e4' : vs 4 = .slice (some ⟨g, 0, none⟩) 4 cap := hd 4 (List.contains_iff_mem.1 (by kernel_rfl))
          refine wpOp_step (o := _) rfl (fun K' hK => ?_)
          have HK := Lib.hid hK
          clear hK
          simp only [lay, Act.put, List.setIfInBounds_toArray, List.set_cons_zero, List.set_cons_succ, List.getD_cons_zero, List.getD_cons_succ, id_eq]
          rw [e4']
          go_simp
          refine HK.out _ _ ⟨_, ?_, Below.refl _ _, rfl⟩
          simp only [lay, Act.put, List.setIfInBounds_toArray, List.set_cons_zero, List.set_cons_succ, List.getD_cons_zero, List.getD_cons_succ, id_eq]
          rw [e4']
        · have e5' : vs 5 = .pointer (some ⟨g, 1, none⟩) := hd 5 (List.contains_iff_mem.1 (by kernel_rfl))
          have z0 := (HP.out.later hBq).2 1 (by rw [HL.out]; decide)
          refine wpOp_step (o := _) rfl (fun K' hK => ?_)
          have HK := Lib.hid hK
          clear hK
          simp only [lay, Act.put, List.setIfInBounds_toArray, List.set_cons_zero, List.set_cons_succ, List.getD_cons_zero, List.getD_cons_succ, id_eq]
          rw [e5']
          go_simp
          refine HK.out _ _ ⟨_, ?_, Below.refl _ _, rfl⟩
          simp only [lay, Act.put, List.setIfInBounds_toArray, List.set_cons_zero, List.set_cons_succ, List.getD_cons_zero, List.getD_cons_succ, id_eq]
          rw [e5']
        · have e6' : vs 6 = str p1 := hd 6 (List.contains_iff_mem.1 (by kernel_rfl))
          refine wpOp_step (o := _) rfl (fun K' hK => ?_)
          have HK := Lib.hid hK
          clear hK
          simp only [lay, Act.put, List.setIfInBounds_toArray, List.set_cons_zero, List.set_cons_succ, List.getD_cons_zero, List.getD_cons_succ, id_eq]
          rw [e6']
          go_simp
          go_at_call 24
          refine (numFromM p1 wq hp1).mono ?_
          rintro e w2 ⟨rfl, hb⟩
          refine HK.out _ _ ⟨_, ?_, hb, rfl⟩
          simp only [lay, Act.put, List.setIfInBounds_toArray, List.set_cons_zero, List.set_cons_succ, List.getD_cons_zero, List.getD_cons_succ, id_eq]
          rw [e6']
        · refine wpOp_step (o := _) rfl (fun K' hK => ?_)
          have HK := Lib.hid hK
          clear hK
          simp only [lay, Act.put, List.setIfInBounds_toArray, List.set_cons_zero, List.set_cons_succ, List.getD_cons_zero, List.getD_cons_succ, id_eq]
          go_simp
          refine HK.out _ _ ⟨_, ?_, Below.refl _ _, rfl⟩
          simp only [lay, Act.put, List.setIfInBounds_toArray, List.set_cons_zero, List.set_cons_succ, List.getD_cons_zero, List.getD_cons_succ, id_eq]
        · refine wpOp_step (o := _) rfl (fun K' hK => ?_)
          have HK := Lib.hid hK
          clear hK
          simp only [lay, Act.put, List.setIfInBounds_toArray, List.set_cons_zero, List.set_cons_succ, List.getD_cons_zero, List.getD_cons_succ, id_eq]
          go_simp
          refine HK.out _ _ ⟨_, ?_, Below.refl _ _, rfl⟩
          simp only [lay, Act.put, List.setIfInBounds_toArray, List.set_cons_zero, List.set_cons_succ, List.getD_cons_zero, List.getD_cons_succ, id_eq]
        · have e3' : vs 3 = .int .i64 (numL p0) := hd 3 (List.contains_iff_mem.1 (by kernel_rfl))
          have e7' : vs 7 = .int .i64 (numL p1) := hd 7 (List.contains_iff_mem.1 (by kernel_rfl))
          have e8' : vs 8 = .slice ra R1.length rc := hd 8 (List.contains_iff_mem.1 (by kernel_rfl))
          have e9' : vs 9 = .slice qa R2.length qc := hd 9 (List.contains_iff_mem.1 (by kernel_rfl))
          refine wpOp_step (o := _) rfl (fun K' hK => ?_)
          have HK := Lib.hid hK
          clear hK
          simp only [lay, Act.put, List.setIfInBounds_toArray, List.set_cons_zero, List.set_cons_succ, List.getD_cons_zero, List.getD_cons_succ, id_eq]
          rw [e3', e7', e8', e9']
          go_simp
          refine HK.out _ _ ⟨_, ?_, Below.refl _ _, rfl⟩
          simp only [lay, Act.put, List.setIfInBounds_toArray, List.set_cons_zero, List.set_cons_succ, List.getD_cons_zero, List.getD_cons_succ, id_eq]
          rw [e3', e7', e8', e9']
        · refine wpOp_step (o := _) rfl (fun K' hK => ?_)
          have HK := Lib.hid hK
          clear hK
          simp only [lay, Act.put, List.setIfInBounds_toArray, List.set_cons_zero, List.set_cons_succ, List.getD_cons_zero, List.getD_cons_succ, id_eq]
          go_simp
          refine HK.out _ _ ⟨_, ?_, (Below.refl _ _).alloc (Nat.le_refl _) _, _, rfl, BoxC.new _ _ _, hBq.size⟩
          simp only [lay, Act.put, List.setIfInBounds_toArray, List.set_cons_zero, List.set_cons_succ, List.getD_cons_zero, List.getD_cons_succ, id_eq]
      case tail =>
        intro vs wq hBq hf
        have e10 : vs 10 = .agg #[.int .i64 (numL p0), .int .i64 (numL p1), .slice ra R1.length rc, .slice qa R2.length qc] := hf 10 (by decide)
        obtain ⟨p11, e11, b11, n11⟩ : isC (w3.heap.size) 27 #[.int .i64 0, .int .i64 0, .slice none 0 0, .slice none 0 0] (vs 11) wq := hf 11 (by decide)
        simp only [lay, Act.put, List.setIfInBounds_toArray, List.set_cons_zero, List.set_cons_succ, List.getD_cons_zero, List.getD_cons_succ, id_eq]
        rw [e10, e11]
        clear e10 e11
        refine any_all (rs := [12]) (by kernel_rfl) (by simp) ?_
        intro i hi
        simp only [List.mem_cons, List.not_mem_nil, or_false] at hi
        subst hi
        refine wpOp_step (o := _) rfl (fun K' hK => ?_)
        have HK := Lib.hid hK
        clear hK
        have kc0 := b11.c 0 rfl
        have kf0 := b11.f 0
        have kc1 := b11.c 1 rfl
        have kf1 := b11.f 1
        have kc2 := b11.c 2 rfl
        have kf2 := b11.f 2
        have kc3 := b11.c 3 rfl
        have kf3 := b11.f 3
        go_simp
        refine HK.out _ _ ?_
        clear HK K' kc0 kf0 kc1 kf1 kc2 kf2 kc3 kf3
        try simp only [Act.put, List.setIfInBounds_toArray, List.set_cons_zero, List.set_cons_succ]
        have b11' := ((((b11.put 0 (.int .i64 (numL p0))).put 1 (.int .i64 (numL p1))).put 2 (.slice ra R1.length rc)).put 3 (.slice qa R2.length qc))
        have hBq' := ((((hBq.setCell (p := ⟨p11, 0, none⟩) n11 (.int .i64 (numL p0))).setCell (p := ⟨p11, 1, none⟩) n11 (.int .i64 (numL p1))).setCell (p := ⟨p11, 2, none⟩) n11 (.slice ra R1.length rc)).setCell (p := ⟨p11, 3, none⟩) n11 (.slice qa R2.length qc))
        refine any_done (by kernel_rfl) ?_ _
        go_wp2_with fail
        go_meet
        exact ⟨p11, rfl, b11', n11, hBq'⟩
    case rest =>
      obtain ⟨p, rfl, bp, hpw, hb⟩ := hcut
      replace HO2 := Lib.hid (HO2.out.later hb)
      replace HO3 := Lib.hid (HO3.out.later hb)
      replace HR := Lib.hid (HR.out.later hb)
      replace HB := Lib.hid (HB.out.trans (hb.mono hg3))
      have HQ := Lib.hid bp
      have hpn : w.heap.size ≠ p := Nat.ne_of_lt (Nat.lt_of_lt_of_le hR3 hpw)
      clear hb bp HP hR3
      rw [← HX.out, ← HY.out] at HQ
      have jf := specFormatConfig (cx s.data.toList) (cy s.data.toList) _ _ _ _ R1 R2 wc l1 l2 HO2.out HO3.out
      generalize cx s.data.toList = X at *
      generalize cy s.data.toList = Y at *
      have JF := Lib.hid jf
      have q0 := HQ.out.c 0 rfl
      have q1 := HQ.out.c 1 rfl
      have q2 := HQ.out.c 2 rfl
      have q3 := HQ.out.c 3 rfl
      clear jf HX HY
      go_wp2_with fail
      refine JF.out.mono ?_
      rintro e w4 ⟨rfl, hb⟩
      replace HO2 := Lib.hid (HO2.out.later hb)
      replace HO3 := Lib.hid (HO3.out.later hb)
      replace HR := Lib.hid (HR.out.later hb)
      replace HQ := Lib.hid (HQ.out.later hb)
      replace HB := Lib.hid (HB.out.trans (hb.mono HB.out.size))
      clear hb JF q0 q1 q2 q3
      have q0 := HQ.out.c 0 rfl
      have q1 := HQ.out.c 1 rfl
      have q2 := HQ.out.c 2 rfl
      have q3 := HQ.out.c 3 rfl
      have r0 := HR.out.c 0 rfl
      have r1 := HR.out.c 1 rfl
      have r2 := HR.out.c 2 rfl
      have r3 := HR.out.c 3 rfl
      have f0 := HR.out.f 0
      have f1 := HR.out.f 1
      have f2 := HR.out.f 2
      have f3 := HR.out.f 3
      by_cases h5 : fmtC X Y R1 R2 = s.data.toList
      · have HF := Lib.hid (HY'.out (HOK.out.2 h5))
        have g2 : (fmtC X Y R1 R2 == s.toList) = true := by rw [ByteArray.toList_eq, beq_iff_eq]; exact h5
        clear h5
        go_wp2_with fail
        refine bodyPost_ret (v := .tuple #[.agg #[.int .i64 X, .int .i64 Y, .slice ra R1.length rc, .slice qa R2.length qc], .bool true]) (by simp [results, Tryd.results10, go_sem, r0, r1, r2, r3]) rfl ?_
        refine ⟨_, _, by rw [HF.out.1, HF.out.2.1, HF.out.2.2.1], ?_, ?_, ?_, HAP.out⟩
        · rw [HF.out.2.2.2.1]
          exact row_put (row_put (row_put (row_put HO2.out.row HR.out (by decide) 0 _) (HR.out.put 0 _) (by decide) 1 _) ((HR.out.put 0 _).put 1 _) (by decide) 2 _) (((HR.out.put 0 _).put 1 _).put 2 _) (by decide) 3 _
        · rw [HF.out.2.2.2.2]
          exact row_put (row_put (row_put (row_put HO3.out.row HR.out (by decide) 0 _) (HR.out.put 0 _) (by decide) 1 _) ((HR.out.put 0 _).put 1 _) (by decide) 2 _) (((HR.out.put 0 _).put 1 _).put 2 _) (by decide) 3 _
        · exact
            (((HB.out.setCell (p := ⟨w.heap.size, 0, none⟩) (Nat.le_refl _) _).setCell (p := ⟨w.heap.size, 1, none⟩) (Nat.le_refl _) _).setCell (p := ⟨w.heap.size, 2, none⟩) (Nat.le_refl _) _).setCell (p := ⟨w.heap.size, 3, none⟩) (Nat.le_refl _) _
      · have HF := Lib.hid (HN'.out (fun h => h5 (HOK.out.1 h)))
        have g2 : (fmtC X Y R1 R2 == s.toList) = false := by rw [ByteArray.toList_eq, beq_eq_false_iff_ne]; exact h5
        clear h5
        go_wp2_with fail
        refine bodyPost_ret (v := .tuple #[.agg #[.int .i64 0, .int .i64 0, .slice none 0 0, .slice none 0 0], .bool false]) (by simp [results, Tryd.results10, go_sem, r0, r1, r2, r3]) rfl ?_
        refine ⟨_, _, by rw [HF.out.1, HF.out.2.1, HF.out.2.2.1], by rw [HF.out.2.2.2.1]; exact World.ownsRow_nil _ _ _ _, by rw [HF.out.2.2.2.2]; exact World.ownsRow_nil _ _ _ _, ?_, apart_nil _ _ _⟩
        exact
          (((HB.out.setCell (p := ⟨w.heap.size, 0, none⟩) (Nat.le_refl _) _).setCell (p := ⟨w.heap.size, 1, none⟩) (Nat.le_refl _) _).setCell (p := ⟨w.heap.size, 2, none⟩) (Nat.le_refl _) _).setCell (p := ⟨w.heap.size, 3, none⟩) (Nat.le_refl _) _
  · have HF := Lib.hid (parC_no (s := s.data.toList) (fun h => h4 h.1))
    have g4 : (((cuts 32 s.data.toList).length : Int) != 4) = true := by rw [bne_iff_ne]; omega
    clear h4 hp0 hpl
    have r0 := HR.out.c 0 rfl
    have r1 := HR.out.c 1 rfl
    have r2 := HR.out.c 2 rfl
    have r3 := HR.out.c 3 rfl
    have f0 := HR.out.f 0
    have f1 := HR.out.f 1
    have f2 := HR.out.f 2
    have f3 := HR.out.f 3
    go_wp2_with fail
    refine bodyPost_ret (v := .tuple #[.agg #[.int .i64 0, .int .i64 0, .slice none 0 0, .slice none 0 0], .bool false]) (by simp [results, Tryd.results10, go_sem, r0, r1, r2, r3]) rfl ?_
    refine ⟨_, _, by rw [HF.out.1, HF.out.2.1, HF.out.2.2.1], by rw [HF.out.2.2.2.1]; exact World.ownsRow_nil _ _ _ _, by rw [HF.out.2.2.2.2]; exact World.ownsRow_nil _ _ _ _, ?_, apart_nil _ _ _⟩
    exact
      (((HB.out.setCell (p := ⟨w.heap.size, 0, none⟩) (Nat.le_refl _) _).setCell (p := ⟨w.heap.size, 1, none⟩) (Nat.le_refl _) _).setCell (p := ⟨w.heap.size, 2, none⟩) (Nat.le_refl _) _).setCell (p := ⟨w.heap.size, 3, none⟩) (Nat.le_refl _) _
end Go.Proofs.YtmojigimlhjphaaDoor.kit
