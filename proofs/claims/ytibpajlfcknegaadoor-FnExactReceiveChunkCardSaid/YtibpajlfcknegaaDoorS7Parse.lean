/-
  Chapter 7: reading a chunk: what impl's parseChunk returns.
-/
import Derived.Test.YtibpajlfcknegaaDoorS7Read
import Derived.Test.YtibpajlfcknegaaDoorParseInts
import Derived.Test.YtibpajlfcknegaaDoorMxCell
import Derived.Test.YtibpajlfcknegaaDoorBoxC
import Derived.Test.YtibpajlfcknegaaDoorInvK
namespace Go.Proofs.YtibpajlfcknegaaDoor.kit
open Go.ChangeShapes Go.WideShapes Go.ChangeAt Go.RowKit
set_option linter.unusedVariables false
set_option linter.unusedSimpArgs false

theorem last35 (s : ByteArray) : (Lib.lastIndexByte s 35 = -1 ∧ (35 : UInt8) ∉ s.data.toList) ∨ ∃ i : Nat, i < s.size ∧ Lib.lastIndexByte s 35 = i ∧ s.data.toList = s.data.toList.take i ++ 35 :: s.data.toList.drop (i + 1) ∧ (35 : UInt8) ∉ s.data.toList.drop (i + 1) := by
  have hget : ∀ j (h : j < s.size), s.data[j]! = s[j] := fun j h => by
    rw [getElem!_pos s.data j h]; rfl
  rcases Lib.lastIndexByte_spec s 35 with ⟨h1, h2⟩ | ⟨i, hi, h1, h2, h3⟩
  · refine .inl ⟨h1, fun hm => ?_⟩
    obtain ⟨j, hj, he⟩ := List.getElem_of_mem hm
    rw [toL_len] at hj
    apply h2 j hj
    rw [hget j hj, show s[j] = 35 from he]; rfl
  · rw [hget i hi] at h2
    have e : s[i] = 35 := by apply UInt8.toNat.inj; show s[i].toNat = 35; omega
    refine .inr ⟨i, hi, h1, ?_, fun hm => ?_⟩
    · have := at_get s i hi
      rw [e] at this
      rw [← this, List.take_append_drop]
    · obtain ⟨j, hj, he⟩ := List.getElem_of_mem hm
      rw [List.length_drop, toL_len] at hj
      rw [List.getElem_drop] at he
      apply h3 (i + 1 + j) (by omega) (by omega)
      rw [hget _ (by omega), show s[i + 1 + j] = 35 from he]; rfl
/-- the texts that impl's parseChunk reads ahead of the last mark -/
def pzI (c : List UInt8) : List UInt8 := (Lib.cut c [47]).1
def pzR (c : List UInt8) : List UInt8 := (Lib.cut c [47]).2.1
def pzT (c : List UInt8) : List UInt8 := (Lib.cut (pzR c) [58]).1
def pzV (c : List UInt8) : List UInt8 := (Lib.cut (pzR c) [58]).2.1
theorem cut_le (x : UInt8) (l : List UInt8) : (Lib.cut l [x]).1.length ≤ l.length ∧ (Lib.cut l [x]).2.1.length ≤ l.length := by
  rcases first_x x l with h | ⟨p, r, h, rfl⟩
  · rw [cut_none h]; simp
  · rw [cut_app h]; simp; omega
theorem pz_reads {s c x : List UInt8} (hs : s = c ++ 35 :: x) (hx : (35 : UInt8) ∉ x) {i n : Int} {d : List UInt8} (h : Reads s i n d) :
    parOk (pzI c) = true ∧ parN (pzI c) = i ∧ parOk (pzT c) = true ∧ parN (pzT c) = n ∧ pzV c = d := by
  have hc := h.last hs hx
  have a := h.1
  unfold okK at a
  have h1 : Lib.cut c [47] = (Lib.itoa i, Lib.itoa n ++ 58 :: d, true) := by rw [hc, con_has]; exact cut_app (itoa_no (by omega) (by decide))
  have h2 : Lib.cut (Lib.itoa n ++ 58 :: d) [58] = (Lib.itoa n, d, true) := cut_app (no58 (by omega))
  have e1 := par_itoa (n := i) (by omega) (by omega)
  have e2 := par_itoa (n := n) (by omega) (by omega)
  unfold pzT pzV pzI pzR
  rw [h1]
  simp only
  rw [h2]
  exact ⟨e1.1, e1.2, e2.1, e2.2, rfl⟩
/-- how impl decides -/
theorem pz_dec {s c x : List UInt8} (hs : s = c ++ 35 :: x) (hx : (35 : UInt8) ∉ x) :
    (parOk (pzI c) = true → parOk (pzT c) = true → Reads s (parN (pzI c)) (parN (pzT c)) (pzV c) → readC s = (parN (pzI c), parN (pzT c), pzV c, true)) ∧
    (¬ (parOk (pzI c) = true ∧ parOk (pzT c) = true ∧ Reads s (parN (pzI c)) (parN (pzT c)) (pzV c)) → readC s = (0, 0, [], false)) := by
  refine ⟨fun _ _ h => readC_yes h, fun h => readC_no fun i n d hr => h ?_⟩
  obtain ⟨h1, h2, h3, h4, h5⟩ := pz_reads hs hx hr
  exact ⟨h1, h3, by rw [h2, h4, h5]; exact hr⟩
noncomputable abbrev rdP (s : List UInt8) : Value := .tuple #[.agg #[.int .i64 (readC s).1, .int .i64 (readC s).2.1, str (readC s).2.2.1], .bool (readC s).2.2.2]
set_option maxRecDepth 100000 in
theorem implValid (i n : Int) (d : List UInt8) (w : World) :
    Calls Tryd.prog 60 #[.agg #[.int .i64 i, .int .i64 n, str d]] w fun e w' => e = .returned (.bool (decide (okK i n d))) ∧ Below w.heap.size w w' := by
  have hB : Below w.heap.size w (w.alloc (.cells #[.int .i64 i, .int .i64 n, str d] 69)) := (Below.refl _ _).alloc (Nat.le_refl _) _
  have HB := Lib.hid hB
  clear hB
  by_cases e1 : 0 ≤ i
  · have g1 : decide (i ≥ 0) = true := decide_eq_true e1
    by_cases e2 : i < n
    · have g2 : decide (i < n) = true := decide_eq_true e2
      by_cases e3 : n ≤ 40
      · have g3 : decide (n ≤ 40) = true := decide_eq_true e3
        by_cases e4 : d = []
        · subst e4
          by_cases e5 : n = 1
          · have HE := Lib.hid (show decide (okK i n []) = true from decide_eq_true ⟨e1, e2, e3, fun _ => e5⟩)
            have g5 : (n == 1) = true := by rw [beq_iff_eq]; exact e5
            clear e5 e1 e2 e3
            go_enter Tryd.func60, Tryd.ntmps60
            go_wp2_with fail
            go_ret
            exact ⟨by rw [HE.out]; rfl, HB.out⟩
          · have HE := Lib.hid (show decide (okK i n []) = false from decide_eq_false (fun h => e5 (h.2.2.2 rfl)))
            have g5 : (n == 1) = false := by rw [beq_eq_false_iff_ne]; exact e5
            clear e5 e1 e2 e3
            go_enter Tryd.func60, Tryd.ntmps60
            go_wp2_with fail
            go_ret
            exact ⟨by rw [HE.out]; rfl, HB.out⟩
        · have HE := Lib.hid (show decide (okK i n d) = true from decide_eq_true ⟨e1, e2, e3, fun h => absurd h e4⟩)
          have g4 : d.isEmpty = false := by cases d with
            | nil => exact absurd rfl e4
            | cons _ _ => rfl
          clear e4 e1 e2 e3
          go_enter Tryd.func60, Tryd.ntmps60
          go_wp2_with fail
          go_ret
          exact ⟨by rw [HE.out]; rfl, HB.out⟩
      · have HE := Lib.hid (show decide (okK i n d) = false from decide_eq_false (fun h => e3 h.2.2.1))
        have g3 : decide (n ≤ 40) = false := decide_eq_false e3
        clear e1 e2 e3
        go_enter Tryd.func60, Tryd.ntmps60
        go_wp2_with fail
        go_ret
        exact ⟨by rw [HE.out]; rfl, HB.out⟩
    · have HE := Lib.hid (show decide (okK i n d) = false from decide_eq_false (fun h => e2 h.2.1))
      have g2 : decide (i < n) = false := decide_eq_false e2
      clear e1 e2
      go_enter Tryd.func60, Tryd.ntmps60
      go_wp2_with fail
      go_ret
      exact ⟨by rw [HE.out]; rfl, HB.out⟩
  · have HE := Lib.hid (show decide (okK i n d) = false from decide_eq_false (fun h => e1 h.1))
    have g1 : decide (i ≥ 0) = false := decide_eq_false e1
    clear e1
    go_enter Tryd.func60, Tryd.ntmps60
    go_wp2_with fail
    go_ret
    exact ⟨by rw [HE.out]; rfl, HB.out⟩
theorem cutAt (b : List UInt8) (x : UInt8) (w : World) (h : b.length ≤ 1048576) (hM : Mx w) :
    Calls Tryd.prog 49 #[str b, .string ⟨#[x]⟩] w fun e w' => e = .returned (.tuple #[str (Lib.cut b [x]).1, str (Lib.cut b [x]).2.1, .bool (Lib.cut b [x]).2.2]) ∧ Below w.heap.size w w' := by
  obtain ⟨m, hm⟩ := hM
  refine (Tryd.strings_Cut ⟨b.toArray⟩ ⟨#[x]⟩ m w (by rw [size_mk]; omega) hm).mono ?_
  rintro e w' ⟨rfl, n, rfl⟩
  exact ⟨rfl, below_drewN (Below.refl _ _) _⟩
set_option maxRecDepth 100000 in
set_option maxHeartbeats 8000000 in
theorem implParseChunk (s : ByteArray) (w : World) (hs : s.size ≤ 1048576) (hT : Tab w) (hM : Mx w) :
    Calls Tryd.prog 42 #[.string s] w fun e w' => e = .returned (rdP s.data.toList) ∧ Below w.heap.size w w' := by
  obtain ⟨W, hW⟩ : ∃ W, W = w.alloc (.cells #[.int .i64 0, .int .i64 0, .string ⟨#[]⟩] 69) := ⟨_, rfl⟩
  have hB : Below w.heap.size w W := by rw [hW]; exact (Below.refl _ _).alloc (Nat.le_refl _) _
  have HR := Lib.hid (show BoxC W w.heap.size 69 #[.int .i64 0, .int .i64 0, .string ⟨#[]⟩] by rw [hW]; exact BoxC.new _ _ _)
  have JL : Hid (Calls Tryd.prog 59 #[.string s, .string ⟨#[35]⟩] W fun e w' => e = .returned (.int .i64 (Lib.lastIndexByte s 35)) ∧ W = w') := Lib.hid ((Tryd.strings_LastIndex_one s ⟨#[35]⟩ rfl (by omega) W).mono fun e w' ⟨he, hw⟩ => ⟨he, hw.symm⟩)
  have HB := Lib.hid hB
  have HW := Lib.hid hW
  have HT := Lib.hid hT
  have HM := Lib.hid hM
  have hsl := toL_len s
  clear hB hW hT hM
  rcases last35 s with ⟨hl, hno⟩ | ⟨k, hk, hl, hsp, hx⟩
  · rw [hl] at JL
    have HF := Lib.hid (readC_no (s := s.data.toList) fun i n d hr => hno (by rw [hr.form]; simp))
    clear hl hno
    go_enter Tryd.func42, Tryd.ntmps42
    go_wp2_with fail
    rw [← HW.out]
    refine JL.out.mono ?_
    rintro e w1 ⟨rfl, rfl⟩
    have r0 := HR.out.c 0 rfl
    have r1 := HR.out.c 1 rfl
    have r2 := HR.out.c 2 rfl
    have f0 := HR.out.f 0
    have f1 := HR.out.f 1
    have f2 := HR.out.f 2
    go_wp2_with fail
    refine bodyPost_ret (v := .tuple #[.agg #[.int .i64 0, .int .i64 0, str []], .bool false]) (by simp [results, Tryd.results42, go_sem, r0, r1, r2]) rfl ?_
    exact ⟨by unfold rdP; rw [HF.out], ((HB.out.setCell (p := ⟨w.heap.size, 0, none⟩) (Nat.le_refl _) _).setCell (p := ⟨w.heap.size, 1, none⟩) (Nat.le_refl _) _).setCell (p := ⟨w.heap.size, 2, none⟩) (Nat.le_refl _) _⟩
  · rw [hl] at JL
    have hcl : (s.data.toList.take k).length ≤ 1048576 := by rw [List.length_take, hsl]; omega
    have HD := Lib.hid (pz_dec hsp hx)
    have HX := Lib.hid (show Value.string (s.extract 0 k) = str (s.data.toList.take k) from ext_mk (by rw [extL]; simp))
    have l1 := cut_le 47 (s.data.toList.take k)
    have l2 := cut_le 58 (pzR (s.data.toList.take k))
    have lR : (pzR (s.data.toList.take k)).length ≤ 1048576 := by unfold pzR; omega
    have hVl : (pzV (s.data.toList.take k)).length ≤ 1048576 := by unfold pzV; omega
    have hTl : (pzT (s.data.toList.take k)).length ≤ 1048576 := by unfold pzT; omega
    have hIl : (pzI (s.data.toList.take k)).length ≤ 1048576 := by unfold pzI; omega
    have jc1 := fun W' (h : Mx W') => cutAt (s.data.toList.take k) 47 W' hcl h
    have jc2 := fun W' (h : Mx W') => cutAt (pzR (s.data.toList.take k)) 58 W' lR h
    rw [show (Lib.cut (s.data.toList.take k) [47]).1 = pzI (s.data.toList.take k) from rfl, show (Lib.cut (s.data.toList.take k) [47]).2.1 = pzR (s.data.toList.take k) from rfl] at jc1
    rw [show (Lib.cut (pzR (s.data.toList.take k)) [58]).1 = pzT (s.data.toList.take k) from rfl, show (Lib.cut (pzR (s.data.toList.take k)) [58]).2.1 = pzV (s.data.toList.take k) from rfl] at jc2
    generalize (Lib.cut (s.data.toList.take k) [47]).2.2 = q1 at jc1
    generalize (Lib.cut (pzR (s.data.toList.take k)) [58]).2.2 = q2 at jc2
    generalize pzI (s.data.toList.take k) = tI at *
    generalize pzR (s.data.toList.take k) = tR at *
    generalize pzT (s.data.toList.take k) = tT at *
    generalize pzV (s.data.toList.take k) = tV at *
    generalize s.data.toList.take k = c at *
    have JC1 := Lib.hid jc1
    have JC2 := Lib.hid jc2
    clear hl hsp hx l1 l2 jc1 jc2 hcl
    go_enter Tryd.func42, Tryd.ntmps42
    go_wp2_with fail
    rw [← HW.out]
    refine JL.out.mono ?_
    rintro e w1 ⟨rfl, rfl⟩
    go_wp2_with fail
    rw [HX.out]
    refine (JC1.out _ (HM.out.below HB.out)).mono ?_
    rintro e w1 ⟨rfl, hb⟩
    replace HR := Lib.hid (HR.out.later hb)
    replace HB := Lib.hid (HB.out.trans (hb.mono HB.out.size))
    clear hb HX JC1
    go_wp2_with fail
    refine (JC2.out _ (HM.out.below HB.out)).mono ?_
    rintro e w2 ⟨rfl, hb⟩
    replace HR := Lib.hid (HR.out.later hb)
    replace HB := Lib.hid (HB.out.trans (hb.mono HB.out.size))
    clear hb JC2
    go_wp2_with fail
    have hbA := (Below.refl w2.heap.size w2).alloc (Nat.le_refl _) (.cells #[str tI, str tT] 9)
    have hat : AtP (w2.alloc (.cells #[str tI, str tT] 9)) (some ⟨w2.heap.size, 0, none⟩) [tI, tT] := fun j hj => by
      refine ⟨_, rfl, by simp, ?_⟩
      have hadd : (⟨w2.heap.size, 0, none⟩ : Addr).add j = ⟨w2.heap.size, j, none⟩ := by unfold Addr.add; split <;> simp_all
      rw [hadd, World.cell?_alloc_at _ _ _ _ rfl]
      match j, hj with
      | 0, _ => rfl
      | 1, _ => rfl
    replace HR := Lib.hid (HR.out.later hbA)
    replace HB := Lib.hid (HB.out.trans (hbA.mono HB.out.size))
    refine (parseInts _ 2 2 [tI, tT] _ rfl (by omega) (fun j => by match j with
      | 0 => exact hIl
      | 1 => exact hTl
      | (n + 2) => simp) hat (HT.out.below HB.out)).mono ?_
    rintro e w3 ⟨v, rfl, ho, hb⟩
    replace HR := Lib.hid (HR.out.later hb)
    replace HB := Lib.hid (HB.out.trans (hb.mono HB.out.size))
    clear hb hat hbA
    have hall : allPar [tI, tT] = (parOk tI && parOk tT) := by simp [allPar]
    rw [hall]
    by_cases hp : parOk tI = true ∧ parOk tT = true
    · have hnum : numsOf [tI, tT] = [parN tI, parN tT] := by unfold numsOf; rw [hall, hp.1, hp.2]; rfl
      rw [hp.1, hp.2]
      rw [hnum] at ho
      have HPP := Lib.hid hp
      obtain ⟨g, cp, rfl, hc2, hcm, hg, hc0, hc1⟩ := ho.two
      have hw0 : (0 : Int) < 2 := by omega
      clear hp hnum hall ho
      go_upto_region 9 with (fail)
      go_cut [13] (fun b wx => ∃ p : Nat, b = .pointer (some ⟨p, 0, none⟩) ∧ BoxC wx p 69 #[.int .i64 (parN tI), .int .i64 (parN tT), str tV] ∧ w3.heap.size ≤ p ∧ Below w3.heap.size w3 wx)
      case first =>
        refine region_inv (m := 9) [43, 44, 45, 46, 47, 48, 49, 50, 13] [] (Fs [isV (.slice (some ⟨g, 0, none⟩) 2 cp), isV (.pointer (some ⟨g, 0, none⟩)), isV (.int .i64 (parN tI)), isV (.slice (some ⟨g, 0, none⟩) 2 cp), isV (.pointer (some ⟨g, 1, none⟩)), isV (.int .i64 (parN tT)), isV (str tV), isV (.agg #[.int .i64 (parN tI), .int .i64 (parN tT), str tV]), isC w3.heap.size 69 #[.int .i64 0, .int .i64 0, .string ⟨#[]⟩]]) (by kernel_rfl) (by decide) rfl (by decide) (by kernel_rfl) (by kernel_rfl) (by kernel_rfl) (fun _ _ _ _ _ h => h) (Fs_mono ⟨isV_mono _, isV_mono _, isV_mono _, isV_mono _, isV_mono _, isV_mono _, isV_mono _, isV_mono _, isC_mono _ _ _, trivial⟩) ?step ?float ?tail
        case float =>
          intro f hf
          cases hf
        case step =>
          intro i hi vs wq hBq hd
          rcases (show i = 0 ∨ i = 1 ∨ i = 2 ∨ i = 3 ∨ i = 4 ∨ i = 5 ∨ i = 6 ∨ i = 7 ∨ i = 8 from by omega) with rfl | rfl | rfl | rfl | rfl | rfl | rfl | rfl | rfl
          · refine wpOp_step (o := _) rfl (fun K' hK => ?_)
            have HK := Lib.hid hK
            clear hK
            simp only [lay, Act.put, List.setIfInBounds_toArray, List.set_cons_zero, List.set_cons_succ, List.getD_cons_zero, List.getD_cons_succ, id_eq]
            go_simp
            refine HK.out _ _ ⟨_, ?_, Below.refl _ _, rfl⟩
            simp only [lay, Act.put, List.setIfInBounds_toArray, List.set_cons_zero, List.set_cons_succ, List.getD_cons_zero, List.getD_cons_succ, id_eq]
          · have e0 : vs 0 = .slice (some ⟨g, 0, none⟩) 2 cp := hd 0 (List.contains_iff_mem.1 (by kernel_rfl))
            refine wpOp_step (o := _) rfl (fun K' hK => ?_)
            have HK := Lib.hid hK
            clear hK
            simp only [lay, Act.put, List.setIfInBounds_toArray, List.set_cons_zero, List.set_cons_succ, List.getD_cons_zero, List.getD_cons_succ, id_eq]
            rw [e0]
            go_simp
            refine HK.out _ _ ⟨_, ?_, Below.refl _ _, rfl⟩
            simp only [lay, Act.put, List.setIfInBounds_toArray, List.set_cons_zero, List.set_cons_succ, List.getD_cons_zero, List.getD_cons_succ, id_eq]
            rw [e0]
          · have e1 : vs 1 = .pointer (some ⟨g, 0, none⟩) := hd 1 (List.contains_iff_mem.1 (by kernel_rfl))
            have z0 := (hBq.cell (p := ⟨g, 0, none⟩) hg).trans hc0
            refine wpOp_step (o := _) rfl (fun K' hK => ?_)
            have HK := Lib.hid hK
            clear hK
            simp only [lay, Act.put, List.setIfInBounds_toArray, List.set_cons_zero, List.set_cons_succ, List.getD_cons_zero, List.getD_cons_succ, id_eq]
            rw [e1]
            go_simp
            refine HK.out _ _ ⟨_, ?_, Below.refl _ _, rfl⟩
            simp only [lay, Act.put, List.setIfInBounds_toArray, List.set_cons_zero, List.set_cons_succ, List.getD_cons_zero, List.getD_cons_succ, id_eq]
            rw [e1]
          · refine wpOp_step (o := _) rfl (fun K' hK => ?_)
            have HK := Lib.hid hK
            clear hK
            simp only [lay, Act.put, List.setIfInBounds_toArray, List.set_cons_zero, List.set_cons_succ, List.getD_cons_zero, List.getD_cons_succ, id_eq]
            go_simp
            refine HK.out _ _ ⟨_, ?_, Below.refl _ _, rfl⟩
            simp only [lay, Act.put, List.setIfInBounds_toArray, List.set_cons_zero, List.set_cons_succ, List.getD_cons_zero, List.getD_cons_succ, id_eq]
          · have e3 : vs 3 = .slice (some ⟨g, 0, none⟩) 2 cp := hd 3 (List.contains_iff_mem.1 (by kernel_rfl))
            refine wpOp_step (o := _) rfl (fun K' hK => ?_)
            have HK := Lib.hid hK
            clear hK
            simp only [lay, Act.put, List.setIfInBounds_toArray, List.set_cons_zero, List.set_cons_succ, List.getD_cons_zero, List.getD_cons_succ, id_eq]
            rw [e3]
            go_simp
            refine HK.out _ _ ⟨_, ?_, Below.refl _ _, rfl⟩
            simp only [lay, Act.put, List.setIfInBounds_toArray, List.set_cons_zero, List.set_cons_succ, List.getD_cons_zero, List.getD_cons_succ, id_eq]
            rw [e3]
          · have e4 : vs 4 = .pointer (some ⟨g, 1, none⟩) := hd 4 (List.contains_iff_mem.1 (by kernel_rfl))
            have z1 := (hBq.cell (p := ⟨g, 1, none⟩) hg).trans hc1
            refine wpOp_step (o := _) rfl (fun K' hK => ?_)
            have HK := Lib.hid hK
            clear hK
            simp only [lay, Act.put, List.setIfInBounds_toArray, List.set_cons_zero, List.set_cons_succ, List.getD_cons_zero, List.getD_cons_succ, id_eq]
            rw [e4]
            go_simp
            refine HK.out _ _ ⟨_, ?_, Below.refl _ _, rfl⟩
            simp only [lay, Act.put, List.setIfInBounds_toArray, List.set_cons_zero, List.set_cons_succ, List.getD_cons_zero, List.getD_cons_succ, id_eq]
            rw [e4]
          · refine wpOp_step (o := _) rfl (fun K' hK => ?_)
            have HK := Lib.hid hK
            clear hK
            simp only [lay, Act.put, List.setIfInBounds_toArray, List.set_cons_zero, List.set_cons_succ, List.getD_cons_zero, List.getD_cons_succ, id_eq]
            go_simp
            refine HK.out _ _ ⟨_, ?_, Below.refl _ _, rfl⟩
            simp only [lay, Act.put, List.setIfInBounds_toArray, List.set_cons_zero, List.set_cons_succ, List.getD_cons_zero, List.getD_cons_succ, id_eq]
          · have e2 : vs 2 = .int .i64 (parN tI) := hd 2 (List.contains_iff_mem.1 (by kernel_rfl))
            have e5 : vs 5 = .int .i64 (parN tT) := hd 5 (List.contains_iff_mem.1 (by kernel_rfl))
            have e6 : vs 6 = str tV := hd 6 (List.contains_iff_mem.1 (by kernel_rfl))
            refine wpOp_step (o := _) rfl (fun K' hK => ?_)
            have HK := Lib.hid hK
            clear hK
            simp only [lay, Act.put, List.setIfInBounds_toArray, List.set_cons_zero, List.set_cons_succ, List.getD_cons_zero, List.getD_cons_succ, id_eq]
            rw [e2, e5, e6]
            go_simp
            refine HK.out _ _ ⟨_, ?_, Below.refl _ _, rfl⟩
            simp only [lay, Act.put, List.setIfInBounds_toArray, List.set_cons_zero, List.set_cons_succ, List.getD_cons_zero, List.getD_cons_succ, id_eq]
            rw [e2, e5, e6]
          · refine wpOp_step (o := _) rfl (fun K' hK => ?_)
            have HK := Lib.hid hK
            clear hK
            simp only [lay, Act.put, List.setIfInBounds_toArray, List.set_cons_zero, List.set_cons_succ, List.getD_cons_zero, List.getD_cons_succ, id_eq]
            go_simp
            refine HK.out _ _ ⟨_, ?_, (Below.refl _ _).alloc (Nat.le_refl _) _, _, rfl, BoxC.new _ _ _, hBq.size⟩
            simp only [lay, Act.put, List.setIfInBounds_toArray, List.set_cons_zero, List.set_cons_succ, List.getD_cons_zero, List.getD_cons_succ, id_eq]
        case tail =>
          intro vs wq hBq hf
          have e7 : vs 7 = .agg #[.int .i64 (parN tI), .int .i64 (parN tT), str tV] := hf 7 (by decide)
          obtain ⟨p, e8, b8, n8⟩ : isC w3.heap.size 69 #[.int .i64 0, .int .i64 0, .string ⟨#[]⟩] (vs 8) wq := hf 8 (by decide)
          simp only [lay, Act.put, List.setIfInBounds_toArray, List.set_cons_zero, List.set_cons_succ, List.getD_cons_zero, List.getD_cons_succ, id_eq]
          rw [e7, e8]
          clear e7 e8
          refine any_all (rs := [9]) (by kernel_rfl) (by simp) ?_
          intro i hi
          simp only [List.mem_cons, List.not_mem_nil, or_false] at hi
          subst hi
          refine wpOp_step (o := _) rfl (fun K' hK => ?_)
          have HK := Lib.hid hK
          clear hK
          have kc0 := b8.c 0 rfl
          have kf0 := b8.f 0
          have kc1 := b8.c 1 rfl
          have kf1 := b8.f 1
          have kc2 := b8.c 2 rfl
          have kf2 := b8.f 2
          go_simp
          refine HK.out _ _ ?_
          clear HK K' kc0 kf0 kc1 kf1 kc2 kf2
          try simp only [Act.put, List.setIfInBounds_toArray, List.set_cons_zero, List.set_cons_succ]
          have b9 := ((b8.put 0 (.int .i64 (parN tI))).put 1 (.int .i64 (parN tT))).put 2 (str tV)
          have hB9 := ((hBq.setCell (p := ⟨p, 0, none⟩) n8 (.int .i64 (parN tI))).setCell (p := ⟨p, 1, none⟩) n8 (.int .i64 (parN tT))).setCell (p := ⟨p, 2, none⟩) n8 (str tV)
          refine any_done (by kernel_rfl) ?_ _
          go_wp2_with fail
          go_meet
          exact ⟨p, rfl, b9, n8, hB9⟩
      case rest =>
        obtain ⟨p, rfl, bp, hp3, hb9⟩ := hcut
        replace HR := Lib.hid (HR.out.later hb9)
        replace HB := Lib.hid (HB.out.trans (hb9.mono HB.out.size))
        have HP := Lib.hid bp
        have p0 := bp.c 0 rfl
        have p1 := bp.c 1 rfl
        have p2 := bp.c 2 rfl
        have JV := Lib.hid (fun W' => implValid (parN tI) (parN tT) tV W')
        have hpn := Nat.ne_of_lt HR.out.lt
        clear hb9 bp hc0 hc1
        go_wp2_with fail
        refine (JV.out _).mono ?_
        rintro e w4 ⟨rfl, hb⟩
        replace HR := Lib.hid (HR.out.later hb)
        replace HP := Lib.hid (HP.out.later hb)
        replace HB := Lib.hid (HB.out.trans (hb.mono HB.out.size))
        clear hb JV p0 p1 p2
        by_cases hok : okK (parN tI) (parN tT) tV
        · rw [decide_eq_true hok]
          have HOK := Lib.hid hok
          unfold okK at hok
          have jc := implChunk (parN tI) (parN tT) ⟨tV.toArray⟩ w4 (by omega) (by omega) (by omega) (by omega) (by rw [mk_size]; exact hVl) (HT.out.below HB.out)
          have p0 := HP.out.c 0 rfl
          have p1 := HP.out.c 1 rfl
          have p2 := HP.out.c 2 rfl
          have JC := Lib.hid jc
          clear jc hok
          go_wp2_with fail
          refine JC.out.mono ?_
          rintro e w5 ⟨rfl, hb⟩
          replace HR := Lib.hid (HR.out.later hb)
          replace HP := Lib.hid (HP.out.later hb)
          replace HB := Lib.hid (HB.out.trans (hb.mono HB.out.size))
          clear hb JC p0 p1 p2
          have r0 := HR.out.c 0 rfl
          have r1 := HR.out.c 1 rfl
          have r2 := HR.out.c 2 rfl
          have f0 := HR.out.f 0
          have f1 := HR.out.f 1
          have f2 := HR.out.f 2
          by_cases hc : chunkL (parN tI) (parN tT) tV = s.data.toList
          · have t4 : (chunkL (parN tI) (parN tT) tV == s.toList) = true := by rw [beq_iff_eq, ByteArray.toList_eq]; exact hc
            have HF := Lib.hid (HD.out.1 HPP.out.1 HPP.out.2 ⟨HOK.out, hc⟩)
            have p0 := HP.out.c 0 rfl
            have p1 := HP.out.c 1 rfl
            have p2 := HP.out.c 2 rfl
            clear hc
            go_wp2_with fail
            refine bodyPost_ret (v := .tuple #[.agg #[.int .i64 (parN tI), .int .i64 (parN tT), str tV], .bool true]) (by simp [results, Tryd.results42, go_sem, r0, r1, r2]) rfl ?_
            exact ⟨by unfold rdP; rw [HF.out], ((HB.out.setCell (p := ⟨w.heap.size, 0, none⟩) (Nat.le_refl _) _).setCell (p := ⟨w.heap.size, 1, none⟩) (Nat.le_refl _) _).setCell (p := ⟨w.heap.size, 2, none⟩) (Nat.le_refl _) _⟩
          · have t4 : (chunkL (parN tI) (parN tT) tV == s.toList) = false := by rw [beq_eq_false_iff_ne, ByteArray.toList_eq]; exact hc
            have HF := Lib.hid (HD.out.2 (fun h => hc h.2.2.2))
            clear hc
            go_wp2_with fail
            refine bodyPost_ret (v := .tuple #[.agg #[.int .i64 0, .int .i64 0, str []], .bool false]) (by simp [results, Tryd.results42, go_sem, r0, r1, r2]) rfl ?_
            exact ⟨by unfold rdP; rw [HF.out], ((HB.out.setCell (p := ⟨w.heap.size, 0, none⟩) (Nat.le_refl _) _).setCell (p := ⟨w.heap.size, 1, none⟩) (Nat.le_refl _) _).setCell (p := ⟨w.heap.size, 2, none⟩) (Nat.le_refl _) _⟩
        · rw [decide_eq_false hok]
          have HF := Lib.hid (HD.out.2 (fun h => hok h.2.2.1))
          clear hok
          have r0 := HR.out.c 0 rfl
          have r1 := HR.out.c 1 rfl
          have r2 := HR.out.c 2 rfl
          have f0 := HR.out.f 0
          have f1 := HR.out.f 1
          have f2 := HR.out.f 2
          go_wp2_with fail
          refine bodyPost_ret (v := .tuple #[.agg #[.int .i64 0, .int .i64 0, str []], .bool false]) (by simp [results, Tryd.results42, go_sem, r0, r1, r2]) rfl ?_
          exact ⟨by unfold rdP; rw [HF.out], ((HB.out.setCell (p := ⟨w.heap.size, 0, none⟩) (Nat.le_refl _) _).setCell (p := ⟨w.heap.size, 1, none⟩) (Nat.le_refl _) _).setCell (p := ⟨w.heap.size, 2, none⟩) (Nat.le_refl _) _⟩
    · have hpb : (parOk tI && parOk tT) = false := by
        cases h1 : parOk tI <;> cases h2 : parOk tT <;> simp_all
      have HF := Lib.hid (HD.out.2 (fun h => hp ⟨h.1, h.2.1⟩))
      rw [hpb]
      obtain ⟨y, q, rfl⟩ := ho.shape
      clear hp hpb hall ho
      have r0 := HR.out.c 0 rfl
      have r1 := HR.out.c 1 rfl
      have r2 := HR.out.c 2 rfl
      have f0 := HR.out.f 0
      have f1 := HR.out.f 1
      have f2 := HR.out.f 2
      go_wp2_with fail
      refine bodyPost_ret (v := .tuple #[.agg #[.int .i64 0, .int .i64 0, str []], .bool false]) (by simp [results, Tryd.results42, go_sem, r0, r1, r2]) rfl ?_
      exact ⟨by unfold rdP; rw [HF.out], ((HB.out.setCell (p := ⟨w.heap.size, 0, none⟩) (Nat.le_refl _) _).setCell (p := ⟨w.heap.size, 1, none⟩) (Nat.le_refl _) _).setCell (p := ⟨w.heap.size, 2, none⟩) (Nat.le_refl _) _⟩
end Go.Proofs.YtibpajlfcknegaaDoor.kit
