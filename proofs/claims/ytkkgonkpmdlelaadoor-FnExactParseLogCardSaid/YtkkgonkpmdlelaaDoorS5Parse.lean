/-
  Chapter 5: what spec's ParseLog returns.
-/
import Derived.Test.YtkkgonkpmdlelaaDoorS5Math
import Derived.Test.YtkkgonkpmdlelaaDoorS3Parse
import Derived.Test.YtkkgonkpmdlelaaDoorEnts4
import Derived.Test.YtkkgonkpmdlelaaDoorBoxC
import Derived.Test.YtkkgonkpmdlelaaDoorInvT
namespace Go.Proofs.YtkkgonkpmdlelaaDoor.kit
open Go.ChangeShapes Go.WideShapes Go.ChangeAt Go.RowKit
set_option linter.unusedVariables false
set_option linter.unusedSimpArgs false

/-- a row of another type is another block -/
theorem row_other {W : World} {g : Nat} {t e : TypeId} {cs : Array Value} {r : Nat × Nat} (h : W.heap[g]? = some (.cells cs t r)) (hte : t ≠ e) {base size k : Nat} {v : Value} {xs : List Value} (hr : W.ownsRow base e size v k xs) : v.ownBlock ≠ some g := by
  rcases hr.2 with ⟨rfl, _⟩ | ⟨q, cap, cur, rfl, _, hgb, _⟩
  · simp [Value.ownBlock]
  · intro e'
    obtain rfl : q = g := by simpa [Value.ownBlock] using e'
    have := h.symm.trans hgb
    simp at this
    exact hte this.2.1
/-- the row of the parts: its block stays -/
def PartsAt (w : World) (g : Nat) (ps : List (List UInt8)) : Prop := (∃ cs r, w.heap[g]? = some (.cells cs 9 r)) ∧ ∀ j, j < ps.length → w.cell? ⟨g, j, none⟩ = some (str (ps.getD j []))
theorem PartsAt.lt {w : World} {g : Nat} {ps : List (List UInt8)} (h : PartsAt w g ps) : g < w.heap.size := by obtain ⟨cs, r, h⟩ := h.1; exact (Array.getElem?_eq_some_iff.1 h).1
theorem PartsAt.same {w w' : World} {g : Nat} {ps : List (List UInt8)} (h : PartsAt w g ps) (hb : w'.heap[g]? = w.heap[g]?) : PartsAt w' g ps := by
  obtain ⟨cs, r, hc⟩ := h.1
  refine ⟨⟨cs, r, hb.trans hc⟩, fun j hj => ?_⟩
  rw [← h.2 j hj]
  simp only [World.cell?, hb]
theorem PartsAt.later {w w' : World} {g : Nat} {ps : List (List UInt8)} (h : PartsAt w g ps) (hb : Below w.heap.size w w') : PartsAt w' g ps := h.same (hb.block g h.lt)
theorem PartsAt.grown {w w' : World} {g : Nat} {ps : List (List UInt8)} (h : PartsAt w g ps) {v : Value} {base : Nat} {L : List Ent} (ho : OwnE base w v L) (hg : w.grownBy w' v.ownBlock) : PartsAt w' g ps := by
  obtain ⟨cs, r, hc⟩ := h.1
  exact h.same (hg.block g h.lt (fun e => row_other hc (by decide) ho.row e.symm))
theorem parts_of {base : Nat} {w : World} {v : Value} {ps : List (List UInt8)} (h : w.ownsRow base 9 1 v ps.length (strs ps)) (h0 : 0 < ps.length) :
    ∃ g cap, v = .slice (some ⟨g, 0, none⟩) ps.length cap ∧ ps.length ≤ cap ∧ cap ≤ maxLen ∧ PartsAt w g ps := by
  obtain ⟨g, cap, rfl, h1, h2, h3, h4, h5⟩ := strs_there h h0
  refine ⟨g, cap, rfl, h1, h2, ?_, h5⟩
  rcases h.2 with ⟨hv, _⟩ | ⟨q, c, cur, hv, _, hh, _⟩
  · cases hv
  · cases hv
    exact ⟨_, _, hh⟩
/-- the entries of the first k parts -/
def lsE (ps : List (List UInt8)) (k : Nat) : List Ent := (ps.take k).map looseE
theorem lsE_succ {ps : List (List UInt8)} {k : Nat} (h : k < ps.length) : lsE ps (k + 1) = lsE ps k ++ [looseE (ps.getD k [])] := by
  unfold lsE
  rw [List.take_succ_eq_append_getElem h, List.map_append]
  simp [List.getD, h]
theorem lsE_len {ps : List (List UInt8)} {k : Nat} (h : k ≤ ps.length) : (lsE ps k).length = k := by unfold lsE; rw [List.length_map, List.length_take]; omega
theorem lsE_out {s : List UInt8} {k : Nat} (h : k ≤ (cuts 59 s).length) (h1 : ¬ (k < (cuts 59 s).length ∧ k ≤ 16)) (h2 : k ≤ 17) : lsE (cuts 59 s) k = outL s := by
  unfold lsE outL
  by_cases hk : k = 17
  · rw [hk]
  · rw [List.take_of_length_le (by omega), List.take_of_length_le (by omega)]
def isL (N : Nat) (x : Ent) : Value → World → Prop := fun v w => ∃ p, v = .slice (some ⟨p, 0, none⟩) 1 1 ∧ p < w.heap.size ∧ EntAt w p 0 x ∧ N ≤ p
theorem isL_mono (N : Nat) (x : Ent) : ∀ v w w', isL N x v w → Below w.heap.size w w' → isL N x v w' := fun _ _ _ ⟨p, h, h1, h2, h3⟩ hb => ⟨p, h, Nat.lt_of_lt_of_le h1 hb.size, h2.below hb h1, h3⟩
theorem isL_src {N : Nat} {x : Ent} {v : Value} {w : World} (h : isL N x v w) : SrcE w.heap.size w v [x] := by
  obtain ⟨p, rfl, h1, h2, _⟩ := h
  refine .inr ⟨p, 0, 1, rfl, h1, fun j hj => ?_⟩
  obtain rfl : j = 0 := by simpa using hj
  exact h2
theorem isL_new (w : World) (N : Nat) (h : N ≤ w.heap.size) (e c s k o d v : Int) : isL N ⟨e, c, s, k, o, d, v⟩ (.slice (some ⟨w.heap.size, 0, none⟩) 1 1) (w.alloc (.cells #[.int .i64 e, .int .i64 c, .int .i64 s, .int .i64 k, .int .i64 o, .int .i64 d, .int .i64 v] 85)) := by
  refine ⟨_, rfl, by simp, ?_, h⟩
  exact entAt_of (fun k hk => by rw [World.cell?_alloc_at _ _ _ _ rfl]; match k, hk with | 0, _ => rfl | 1, _ => rfl | 2, _ => rfl | 3, _ => rfl | 4, _ => rfl | 5, _ => rfl | 6, _ => rfl)
theorem infoEs : Tryd.prog.underlying 31 = some (.slice 85) := Tryd.underlying31
set_option maxRecDepth 100000 in
set_option maxHeartbeats 8000000 in
theorem specParseLog (s : ByteArray) (w : World) (hs : s.size ≤ 1048576) :
    Calls Tryd.prog 15 #[.string s] w fun e w' => ∃ u, e = .returned (.tuple #[u, .bool (parLok s.data.toList)]) ∧ OwnE w.heap.size w' u (parLl s.data.toList) ∧ Below w.heap.size w w' := by
  have hl : s.data.toList.length = s.size := by rw [Array.length_toList]; rfl
  by_cases hn : s.data.toList = wordNone
  · have HF := Lib.hid (show parLok s.data.toList = true ∧ parLl s.data.toList = [] from ⟨decide_eq_true (.inl hn), if_pos hn⟩)
    have g0 : (s.toList == [110, 111, 110, 101]) = true := by rw [ByteArray.toList_eq, hn]; rfl
    clear hn
    go_enter Tryd.func15, Tryd.ntmps15
    go_wp2_with fail
    refine bodyPost_ret (v := .tuple #[.slice (some ⟨w.heap.size, 0, none⟩) 0 0, .bool true]) (by simp [results, Tryd.results15, go_sem]) rfl ?_
    exact ⟨_, by rw [HF.out.1], by rw [HF.out.2]; exact ownE_new _ _ (Nat.le_refl _), (Below.refl _ _).alloc (Nat.le_refl _) _⟩
  have g0 : (s.toList == [110, 111, 110, 101]) = false := by rw [ByteArray.toList_eq, beq_eq_false_iff_ne]; exact hn
  have HN := Lib.hid hn
  have hp0 := List.length_pos_iff.2 (cuts_ne 59 s.data.toList)
  have hpl := fun j => cuts_getD (x := 59) (l := s.data.toList) j
  rw [hl] at hpl
  have HPL := Lib.hid hpl
  have HL := Lib.hid hl
  clear hn hpl hl
  go_enter Tryd.func15, Tryd.ntmps15
  go_wp2_with fail
  refine (cutEvery s 59 59 rfl _ hs).mono ?_
  rintro e w1 ⟨v, rfl, ho, hb⟩
  have hOUT := fun k h h1 h2 => lsE_out (s := s.data.toList) (k := k) h h1 h2
  have HOUT := Lib.hid hOUT
  clear hOUT
  generalize hps : cuts 59 s.data.toList = ps at *
  obtain ⟨g, cap, rfl, hn, hm, hp⟩ := parts_of ho hp0
  have HP := Lib.hid hp
  have HO := Lib.hid ((ownE_new w w.heap.size (Nat.le_refl _)).later hb)
  have HB := Lib.hid (((Below.refl w.heap.size w).alloc (Nat.le_refl _) _).trans (hb.mono (by simp)))
  unfold maxLen at hm
  clear ho hb hp hps g0
  go_wp2_with fail
  go_loopw [4, 6] (fun u i wr => ∃ k : Nat, k ≤ ps.length ∧ k ≤ 17 ∧ i = .int .i64 k ∧ Hid (OwnE w.heap.size wr u (lsE ps k)) ∧ Hid (PartsAt wr g ps) ∧ Hid (Below w.heap.size w wr)) (fun _ i _ => 17 - (intOf i).toNat)
  case atStart => exact ⟨0, Nat.zero_le _, by omega, rfl, HO, HP, HB⟩
  clear HO HP HB
  case round =>
    obtain ⟨k, hk, hk17, rfl, HO, HP, HB⟩ := hrel
    obtain ⟨ua, uc, rfl⟩ := HO.out.shape
    have hlen := lsE_len hk
    have k3 : (0 : Int) ≤ (k : Int) := by omega
    by_cases hlt : k < ps.length ∧ k ≤ 16
    · have k4 : (k : Int) < (ps.length : Int) := by omega
      have k6 : (k : Int) ≤ 16 := by omega
      have hcell := HP.out.2 k hlt.1
      have HX := Lib.hid (lsE_succ hlt.1)
      have hpk := HPL.out k
      generalize ps.getD k [] = p at *
      have hqs0 := List.length_pos_iff.2 (cuts_ne 58 p)
      have hql := fun j => cuts_getD (x := 58) (l := p) j
      have hql0 := hql 0
      have hqll := hql ((cuts 58 p).length - 1)
      clear hql
      go_wp2_with fail
      refine (cutEvery ⟨p.toArray⟩ 58 58 rfl _ (by rw [size_mk]; omega)).mono ?_
      rintro e w2 ⟨v, rfl, ho, hb⟩
      simp only at ho
      have HE := Lib.hid (show looseE p = ⟨numL ((cuts 58 p).getD 0 []), (parO ((cuts 58 p).getD ((cuts 58 p).length - 1) [])).1, (parO ((cuts 58 p).getD ((cuts 58 p).length - 1) [])).2.1, (parO ((cuts 58 p).getD ((cuts 58 p).length - 1) [])).2.2.1,
    (parO ((cuts 58 p).getD ((cuts 58 p).length - 1) [])).2.2.2.1, (parO ((cuts 58 p).getD ((cuts 58 p).length - 1) [])).2.2.2.2.1, (parO ((cuts 58 p).getD ((cuts 58 p).length - 1) [])).2.2.2.2.2⟩ from rfl)
      generalize cuts 58 p = qs at *
      obtain ⟨g2, cap2, rfl, hn2, hm2, hp2⟩ := parts_of ho hqs0
      unfold maxLen at hm2
      have HQ0 := Lib.hid hp2
      have hc0 := hp2.2 0 hqs0
      have hcl := hp2.2 (qs.length - 1) (by omega)
      have HG0 : Hid (qs.getD 0 [] = qs.getD 0 []) := Lib.hid rfl
      obtain ⟨q0, hq0⟩ : ∃ q, qs.getD 0 [] = q := ⟨_, rfl⟩
      obtain ⟨ql, hql⟩ : ∃ q, qs.getD (qs.length - 1) [] = q := ⟨_, rfl⟩
      have hq0p := hqs0
      replace HG0 := Lib.hid hq0
      rw [hq0] at HE hql0
      rw [hql] at HE hqll hcl
      replace HO := Lib.hid (HO.out.later hb)
      replace HP := Lib.hid (HP.out.later hb)
      replace HB := Lib.hid (HB.out.trans (hb.mono HB.out.size))
      obtain ⟨n2, hn2'⟩ : ∃ n, qs.length = n := ⟨_, rfl⟩
      have HN2 := Lib.hid hn2'
      rw [hn2'] at hcl hqs0 hn2
      have i1 : (0 : Int) ≤ (n2 : Int) - 1 := by omega
      have i2 : (n2 : Int) - 1 < (n2 : Int) := by omega
      have i3 : ((n2 : Int) - 1).toNat = n2 - 1 := by omega
      have i4 : (0 : Int) < (n2 : Int) := by omega
      have JN := Lib.hid (fun W => numFromL q0 W (by omega))
      have JP := Lib.hid (specParseOp ⟨ql.toArray⟩ w2 (by rw [size_mk]; omega))
      simp only at JP
      unfold opT at JP
      generalize hnu : numL q0 = nu at *
      obtain ⟨oc, os, ok, oo, od, ov, hpo⟩ : ∃ a b c d e f, parO ql = (a, b, c, d, e, f) := ⟨_, _, _, _, _, _, rfl⟩
      rw [hpo] at JP HE
      simp only at JP HE
      rw [HE.out] at HX
      clear HE hpo hnu hn2' hq0 hql ho hp2 hc0 hb hql0 hqll hcell
      rw [HN2.out]
      go_wp2_with fail
      refine JP.out.mono ?_
      rintro e w3 ⟨rfl, hb⟩
      replace HO := Lib.hid (HO.out.later hb)
      replace HP := Lib.hid (HP.out.later hb)
      replace HQ0 := Lib.hid (HQ0.out.later hb)
      replace HB := Lib.hid (HB.out.trans (hb.mono HB.out.size))
      have hbA := (Below.refl w3.heap.size w3).alloc (Nat.le_refl _) (.cells #[.int .i64 oc, .int .i64 os, .int .i64 ok, .int .i64 oo, .int .i64 od, .int .i64 ov] 80)
      have HBX := Lib.hid (BoxC.new w3 80 #[.int .i64 oc, .int .i64 os, .int .i64 ok, .int .i64 oo, .int .i64 od, .int .i64 ov])
      replace HO := Lib.hid (HO.out.later hbA)
      replace HP := Lib.hid (HP.out.later hbA)
      replace HQ0 := Lib.hid (HQ0.out.later hbA)
      replace HB := Lib.hid (HB.out.trans (hbA.mono HB.out.size))
      obtain ⟨w4, hw4⟩ : ∃ W, W = w3.alloc (.cells #[.int .i64 oc, .int .i64 os, .int .i64 ok, .int .i64 oo, .int .i64 od, .int .i64 ov] 80) := ⟨_, rfl⟩
      obtain ⟨pm, hpm⟩ : ∃ q, q = w3.heap.size := ⟨_, rfl⟩
      rw [← hw4] at HO HP HQ0 HB HBX
      rw [← hpm] at HBX
      have HW4 := Lib.hid hw4
      have HPM := Lib.hid hpm
      have HO' := HO.out
      rw [hlen] at HO'
      replace HO := Lib.hid HO'
      clear HO'
      clear hb JP hcl hbA hw4 hpm
      go_upto_region 10 with (fail)
      rw [← HW4.out, ← HPM.out]
      refine region_reach (m := 8) [41, 42, 43, 44, 45, 46, 47, 48] (Fs [isV (.slice ua k uc), isV (.slice (some ⟨g2, 0, none⟩) n2 cap2), isV (.pointer (some ⟨g2, 0, none⟩)), isV (str q0), isV (.int .i64 nu), isV (.agg #[.int .i64 oc, .int .i64 os, .int .i64 ok, .int .i64 oo, .int .i64 od, .int .i64 ov]), isV (.agg #[.int .i64 nu, .int .i64 oc, .int .i64 os, .int .i64 ok, .int .i64 oo, .int .i64 od, .int .i64 ov]), isL 0 ⟨nu, oc, os, ok, oo, od, ov⟩]) (by kernel_rfl) (by decide) rfl (by decide) (by kernel_rfl) (by kernel_rfl) (fun _ _ _ _ _ h => h) (Fs_mono ⟨isV_mono _, isV_mono _, isV_mono _, isV_mono _, isV_mono _, isV_mono _, isV_mono _, isL_mono _ _, trivial⟩) ?step ?tail
      case step =>
        intro i hi vs wq hBq hd
        rcases (show i = 0 ∨ i = 1 ∨ i = 2 ∨ i = 3 ∨ i = 4 ∨ i = 5 ∨ i = 6 ∨ i = 7 from by omega) with rfl | rfl | rfl | rfl | rfl | rfl | rfl | rfl
        · refine wpOp_step (o := _) rfl (fun K' hK => ?_)
          have HK := Lib.hid hK
          clear hK
          simp only [lay, Act.put, List.setIfInBounds_toArray, List.set_cons_zero, List.set_cons_succ, List.getD_cons_zero, List.getD_cons_succ, id_eq]
          go_simp
          refine HK.out _ _ ⟨_, ?_, Below.refl _ _, rfl⟩
          simp only [lay, Act.put, List.setIfInBounds_toArray, List.set_cons_zero, List.set_cons_succ, List.getD_cons_zero, List.getD_cons_succ, id_eq]
        · refine wpOp_step (o := _) rfl (fun K' hK => ?_)
          have HK := Lib.hid hK
          clear hK
          simp only [lay, Act.put, List.setIfInBounds_toArray, List.set_cons_zero, List.set_cons_succ, List.getD_cons_zero, List.getD_cons_succ, id_eq]
          go_simp
          refine HK.out _ _ ⟨_, ?_, Below.refl _ _, rfl⟩
          simp only [lay, Act.put, List.setIfInBounds_toArray, List.set_cons_zero, List.set_cons_succ, List.getD_cons_zero, List.getD_cons_succ, id_eq]
        · have e1' : vs 1 = .slice (some ⟨g2, 0, none⟩) n2 cap2 := hd 1 (List.contains_iff_mem.1 (by kernel_rfl))
          refine wpOp_step (o := _) rfl (fun K' hK => ?_)
          have HK := Lib.hid hK
          clear hK
          simp only [lay, Act.put, List.setIfInBounds_toArray, List.set_cons_zero, List.set_cons_succ, List.getD_cons_zero, List.getD_cons_succ, id_eq]
          rw [e1']
          go_simp
          refine HK.out _ _ ⟨_, ?_, Below.refl _ _, rfl⟩
          simp only [lay, Act.put, List.setIfInBounds_toArray, List.set_cons_zero, List.set_cons_succ, List.getD_cons_zero, List.getD_cons_succ, id_eq]
          rw [e1']
        · have e2' : vs 2 = .pointer (some ⟨g2, 0, none⟩) := hd 2 (List.contains_iff_mem.1 (by kernel_rfl))
          have z0 := (HQ0.out.later hBq).2 0 hq0p
          rw [HG0.out] at z0
          refine wpOp_step (o := _) rfl (fun K' hK => ?_)
          have HK := Lib.hid hK
          clear hK
          simp only [lay, Act.put, List.setIfInBounds_toArray, List.set_cons_zero, List.set_cons_succ, List.getD_cons_zero, List.getD_cons_succ, id_eq]
          rw [e2']
          go_simp
          refine HK.out _ _ ⟨_, ?_, Below.refl _ _, rfl⟩
          simp only [lay, Act.put, List.setIfInBounds_toArray, List.set_cons_zero, List.set_cons_succ, List.getD_cons_zero, List.getD_cons_succ, id_eq]
          rw [e2']
        · have e3' : vs 3 = str q0 := hd 3 (List.contains_iff_mem.1 (by kernel_rfl))
          refine wpOp_step (o := _) rfl (fun K' hK => ?_)
          have HK := Lib.hid hK
          clear hK
          simp only [lay, Act.put, List.setIfInBounds_toArray, List.set_cons_zero, List.set_cons_succ, List.getD_cons_zero, List.getD_cons_succ, id_eq]
          rw [e3']
          go_simp
          go_at_call 54
          refine (JN.out wq).mono ?_
          rintro e w9 ⟨rfl, hb9⟩
          refine HK.out _ _ ⟨_, ?_, hb9, rfl⟩
          simp only [lay, Act.put, List.setIfInBounds_toArray, List.set_cons_zero, List.set_cons_succ, List.getD_cons_zero, List.getD_cons_succ, id_eq]
          rw [e3']
        · have b0 := (HBX.out.later hBq).c 0 rfl
          have b1 := (HBX.out.later hBq).c 1 rfl
          have b2 := (HBX.out.later hBq).c 2 rfl
          have b3 := (HBX.out.later hBq).c 3 rfl
          have b4 := (HBX.out.later hBq).c 4 rfl
          have b5 := (HBX.out.later hBq).c 5 rfl
          refine wpOp_step (o := _) rfl (fun K' hK => ?_)
          have HK := Lib.hid hK
          clear hK
          simp only [lay, Act.put, List.setIfInBounds_toArray, List.set_cons_zero, List.set_cons_succ, List.getD_cons_zero, List.getD_cons_succ, id_eq]
          go_simp
          refine HK.out _ _ ⟨_, ?_, Below.refl _ _, rfl⟩
          simp only [lay, Act.put, List.setIfInBounds_toArray, List.set_cons_zero, List.set_cons_succ, List.getD_cons_zero, List.getD_cons_succ, id_eq]
        · have e4' : vs 4 = .int .i64 nu := hd 4 (List.contains_iff_mem.1 (by kernel_rfl))
          have e5' : vs 5 = .agg #[.int .i64 oc, .int .i64 os, .int .i64 ok, .int .i64 oo, .int .i64 od, .int .i64 ov] := hd 5 (List.contains_iff_mem.1 (by kernel_rfl))
          refine wpOp_step (o := _) rfl (fun K' hK => ?_)
          have HK := Lib.hid hK
          clear hK
          simp only [lay, Act.put, List.setIfInBounds_toArray, List.set_cons_zero, List.set_cons_succ, List.getD_cons_zero, List.getD_cons_succ, id_eq]
          rw [e4', e5']
          go_simp
          refine HK.out _ _ ⟨_, ?_, Below.refl _ _, rfl⟩
          simp only [lay, Act.put, List.setIfInBounds_toArray, List.set_cons_zero, List.set_cons_succ, List.getD_cons_zero, List.getD_cons_succ, id_eq]
          rw [e4', e5']
        · have e6' : vs 6 = .agg #[.int .i64 nu, .int .i64 oc, .int .i64 os, .int .i64 ok, .int .i64 oo, .int .i64 od, .int .i64 ov] := hd 6 (List.contains_iff_mem.1 (by kernel_rfl))
          refine wpOp_step (o := _) rfl (fun K' hK => ?_)
          have HK := Lib.hid hK
          clear hK
          simp only [lay, Act.put, List.setIfInBounds_toArray, List.set_cons_zero, List.set_cons_succ, List.getD_cons_zero, List.getD_cons_succ, id_eq]
          rw [e6']
          go_simp
          refine HK.out _ _ ⟨_, ?_, (Below.refl _ _).alloc (Nat.le_refl _) _, isL_new _ 0 (Nat.zero_le _) nu oc os ok oo od ov⟩
          simp only [lay, Act.put, List.setIfInBounds_toArray, List.set_cons_zero, List.set_cons_succ, List.getD_cons_zero, List.getD_cons_succ, id_eq]
          rw [e6']
      case tail =>
        intro vs wq hBq hf
        have e0' : vs 0 = .slice ua k uc := hf 0 (by decide)
        have l7' : isL 0 ⟨nu, oc, os, ok, oo, od, ov⟩ (vs 7) wq := hf 7 (by decide)
        simp only [lay, Act.put, List.setIfInBounds_toArray, List.set_cons_zero, List.set_cons_succ, List.getD_cons_zero, List.getD_cons_succ, id_eq]
        rw [e0']
        clear e0'
        refine any_all (rs := [8]) (by kernel_rfl) (by simp) ?_
        intro i hi
        simp only [List.mem_cons, List.not_mem_nil, or_false] at hi
        subst hi
        refine wpOp_step (o := _) rfl (fun K' hK => ?_)
        have HK := Lib.hid hK
        clear hK
        have hsl := hBq.size
        refine wp_appE infoEs (.tmp 41) (.tmp 48) rfl w.heap.size _ (lsE ps k) rfl (HO.out.later hBq) _ _ [⟨nu, oc, os, ok, oo, od, ov⟩] rfl (isL_src l7') (by simp; omega) (Nat.le_trans HB.out.size hsl) ?_
        intro v' w6 ho6 hb6 hg6
        replace HP := Lib.hid ((HP.out.later hBq).grown (HO.out.later hBq) hg6)
        replace HB := Lib.hid ((HB.out.trans (hBq.mono HB.out.size)).trans hb6)
        replace HO := Lib.hid ho6
        clear ho6 hb6 hg6 hsl l7' hBq
        refine HK.out _ _ ?_
        clear HK K'
        try simp only [Act.put, List.setIfInBounds_toArray, List.set_cons_zero, List.set_cons_succ]
        refine any_all (rs := [9]) (by kernel_rfl) (by simp) ?_
        intro i hi
        simp only [List.mem_cons, List.not_mem_nil, or_false] at hi
        subst hi
        refine wpOp_step (o := _) rfl (fun K' hK => ?_)
        have HK := Lib.hid hK
        clear hK
        go_simp
        refine HK.out _ _ ?_
        clear HK K'
        try simp only [Act.put, List.setIfInBounds_toArray, List.set_cons_zero, List.set_cons_succ]
        refine any_done (by kernel_rfl) ?_ _
        go_wp2_with fail
        go_roundw
        case rel => exact ⟨k + 1, by omega, by omega, by go_num, by rw [HX.out]; exact HO, HP, HB⟩
        case measure => simp [intOf]; omega
    · have HOL := Lib.hid (HOUT.out k hk hlt hk17)
      have hk4 : (decide (k < ps.length) = false) ∨ (decide (k < ps.length) = true ∧ decide ((k : Int) ≤ 16) = false ∧ decide (k ≤ 16) = false) := by
        by_cases h : k < ps.length
        · exact .inr ⟨decide_eq_true (by omega), decide_eq_false (by omega), decide_eq_false (by omega)⟩
        · exact .inl (decide_eq_false (by omega))
      have hll : (outL s.data.toList).length ≤ 17 := outL_len _
      have ho' := HO.out
      rw [HOL.out] at ho'
      have JF := Lib.hid (specFormatLog _ _ (outL s.data.toList) wr (by omega) ho')
      have hln : (outL s.data.toList).length = k := by rw [← HOL.out]; exact hlen
      rw [hln] at JF ho'
      replace HO := Lib.hid ho'
      clear ho' hln hll
      by_cases h0 : s.data.toList = []
      · have HF := Lib.hid (show parLok s.data.toList = false ∧ parLl s.data.toList = [] by
          have hno : ¬ okPL s.data.toList := fun h => by
            rcases h with h | h
            · exact HN.out h
            · exact h.1 h0
          exact ⟨decide_eq_false hno, by unfold parLl; rw [if_neg HN.out, if_neg hno]⟩)
        have g1 : (s.toList == []) = true := by rw [ByteArray.toList_eq, h0]; rfl
        clear h0
        rcases hk4 with q1 | ⟨q1, q2, q3⟩
        · skip
          go_wp2_with fail
          refine bodyPost_ret (v := .tuple #[.slice (some ⟨wr.heap.size, 0, none⟩) 0 0, .bool false]) (by simp [results, Tryd.results15, go_sem]) rfl ?_
          exact ⟨_, by rw [HF.out.1], by rw [HF.out.2]; exact ownE_new _ _ HB.out.size, HB.out.alloc HB.out.size _⟩
        · skip
          go_wp2_with fail
          refine bodyPost_ret (v := .tuple #[.slice (some ⟨wr.heap.size, 0, none⟩) 0 0, .bool false]) (by simp [results, Tryd.results15, go_sem]) rfl ?_
          exact ⟨_, by rw [HF.out.1], by rw [HF.out.2]; exact ownE_new _ _ HB.out.size, HB.out.alloc HB.out.size _⟩
      · have g1 : (s.toList == []) = false := by rw [ByteArray.toList_eq, beq_eq_false_iff_ne]; exact h0
        by_cases h1 : fmtL (outL s.data.toList) = s.data.toList
        · have HF := Lib.hid (show parLok s.data.toList = true ∧ parLl s.data.toList = outL s.data.toList from ⟨decide_eq_true (.inr ⟨h0, h1⟩), by unfold parLl; rw [if_neg HN.out, if_pos (.inr ⟨h0, h1⟩)]⟩)
          have g2 : (fmtL (outL s.data.toList) == s.toList) = true := by rw [ByteArray.toList_eq, h1]; simp
          clear h0 h1
          rcases hk4 with q1 | ⟨q1, q2, q3⟩
          · skip
            go_wp2_with fail
            refine JF.out.mono ?_
            rintro e w5 ⟨rfl, hb⟩
            go_wp2_with fail
            refine bodyPost_ret (v := .tuple #[.slice ua k uc, .bool true]) (by simp [results, Tryd.results15, go_sem]) rfl ?_
            exact ⟨_, by rw [HF.out.1], by rw [HF.out.2]; exact HO.out.later hb, HB.out.trans (hb.mono HB.out.size)⟩
          · skip
            go_wp2_with fail
            refine JF.out.mono ?_
            rintro e w5 ⟨rfl, hb⟩
            go_wp2_with fail
            refine bodyPost_ret (v := .tuple #[.slice ua k uc, .bool true]) (by simp [results, Tryd.results15, go_sem]) rfl ?_
            exact ⟨_, by rw [HF.out.1], by rw [HF.out.2]; exact HO.out.later hb, HB.out.trans (hb.mono HB.out.size)⟩
        · have HF := Lib.hid (show parLok s.data.toList = false ∧ parLl s.data.toList = [] by
            have hno : ¬ okPL s.data.toList := fun h => by
              rcases h with h | h
              · exact HN.out h
              · exact h1 h.2
            exact ⟨decide_eq_false hno, by unfold parLl; rw [if_neg HN.out, if_neg hno]⟩)
          have g2 : (fmtL (outL s.data.toList) == s.toList) = false := by rw [ByteArray.toList_eq, beq_eq_false_iff_ne]; exact h1
          clear h0 h1
          rcases hk4 with q1 | ⟨q1, q2, q3⟩
          · skip
            go_wp2_with fail
            refine JF.out.mono ?_
            rintro e w5 ⟨rfl, hb⟩
            have HB5 := Lib.hid (HB.out.trans (hb.mono HB.out.size))
            go_wp2_with fail
            refine bodyPost_ret (v := .tuple #[.slice (some ⟨w5.heap.size, 0, none⟩) 0 0, .bool false]) (by simp [results, Tryd.results15, go_sem]) rfl ?_
            exact ⟨_, by rw [HF.out.1], by rw [HF.out.2]; exact ownE_new _ _ HB5.out.size, HB5.out.alloc HB5.out.size _⟩
          · skip
            go_wp2_with fail
            refine JF.out.mono ?_
            rintro e w5 ⟨rfl, hb⟩
            have HB5 := Lib.hid (HB.out.trans (hb.mono HB.out.size))
            go_wp2_with fail
            refine bodyPost_ret (v := .tuple #[.slice (some ⟨w5.heap.size, 0, none⟩) 0 0, .bool false]) (by simp [results, Tryd.results15, go_sem]) rfl ?_
            exact ⟨_, by rw [HF.out.1], by rw [HF.out.2]; exact ownE_new _ _ HB5.out.size, HB5.out.alloc HB5.out.size _⟩
end Go.Proofs.YtkkgonkpmdlelaaDoor.kit
