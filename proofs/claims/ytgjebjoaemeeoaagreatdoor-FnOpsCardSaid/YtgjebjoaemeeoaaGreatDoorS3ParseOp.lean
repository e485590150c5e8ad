/-
  Chapter 3: how the program reads an operation, for every string of at most 2^20 bytes.
-/
import Derived.Test.YtgjebjoaemeeoaaGreatDoorS3ParseImpl
import Derived.Test.YtgjebjoaemeeoaaGreatDoorMxCell
import Derived.Test.YtgjebjoaemeeoaaGreatDoorShelf
namespace Go.Proofs.YtgjebjoaemeeoaaGreatDoor.kit
open Go.ChangeShapes Go.WideShapes Go.ChangeAt Go.RowKit
set_option linter.unusedVariables false
attribute [local go_sem ↓] Go.wp_at_zero Go.wp_at_succ

theorem splitWords (s : ByteArray) (w : World) (hs : s.size ≤ 1048576) (hM : Mx w) :
    Calls Tryz.prog 33 #[.string s, .string { data := #[32] }, .int .i64 5] w fun e w' => ∃ g cap, e = .returned (.slice (some ⟨g, 0, none⟩) (wordsL s.data.toList).length cap) ∧ (wordsL s.data.toList).length ≤ cap ∧ cap ≤ 5 ∧ w.heap.size ≤ g ∧ g < w'.heap.size ∧
      (∀ j, j < (wordsL s.data.toList).length → w'.cell? ⟨g, j, none⟩ = some (str ((wordsL s.data.toList).getD j []))) ∧ Below w.heap.size w w' := by
  obtain ⟨m, hm⟩ := hM
  have hl : s.data.toList.length = s.size := by rw [Array.length_toList]; rfl
  refine (Tryz.strings_SplitN s { data := #[32] } 5 m w (by omega) hm (by decide) (by omega) (by omega)).mono ?_
  rintro e w' ⟨rfl, rfl⟩
  have hd := Lib.splitB_data { data := #[32] } 0 (min 5 (s.size + 1) - 1) s
  have hle := Lib.splitB_length_le { data := #[32] } 0 (min 5 (s.size + 1) - 1) s
  have hw : wordsL s.data.toList = (Lib.splitB { data := #[32] } 0 (min 5 (s.size + 1) - 1) s).map (·.data.toList) := by rw [hd]; unfold wordsL; rw [hl]
  have hlen : (wordsL s.data.toList).length = (Lib.splitB { data := #[32] } 0 (min 5 (s.size + 1) - 1) s).length := by rw [hw, List.length_map]
  refine ⟨w.heap.size, min 5 (s.size + 1), by rw [hlen], by rw [hlen]; omega, by omega, Nat.le_refl _, by simp, fun j hj => ?_, (Below.refl _ _).alloc (Nat.le_refl _) _⟩
  rw [World.cell?_alloc_at _ _ _ _ rfl]
  rw [hlen] at hj
  unfold Lib.cellsOf
  rw [List.getElem?_toArray, List.getElem?_append_left (by simpa using hj), hw]
  simp [hj]
theorem cutDot (p : List UInt8) (w : World) (h : p.length ≤ 1048576) (hM : Mx w) :
    Calls Tryz.prog 34 #[str p, .string { data := #[46] }] w fun e w' => e = .returned (.tuple #[str (Lib.cut p [46]).1, str (Lib.cut p [46]).2.1, .bool (Lib.cut p [46]).2.2]) ∧ Below w.heap.size w w' := by
  obtain ⟨m, hm⟩ := hM
  refine (Tryz.strings_Cut ⟨p.toArray⟩ { data := #[46] } m w (by rw [size_mk]; omega) hm).mono ?_
  rintro e w' ⟨rfl, n, rfl⟩
  exact ⟨by simp, below_drewN (Below.refl _ _) _⟩
set_option maxRecDepth 100000 in
set_option maxHeartbeats 8000000 in
theorem implParse_short (s : ByteArray) (w : World) (hs : s.size ≤ 1048576) (HN : Hid ((wordsL s.data.toList).length = 1)) (hM : Mx w) (hT : Tab w) :
    Calls Tryz.prog 7 #[.string s] w fun e w' => e = .returned (.tuple #[opV 0 0 0 0 0 0, .bool false]) ∧ Below w.heap.size w w' := by
  unfold opV
  obtain ⟨WB, hWB⟩ : ∃ W, W = w.alloc (.cells #[.int .i64 0, .int .i64 0, .int .i64 0, .int .i64 0, .int .i64 0, .int .i64 0] 25) := ⟨_, rfl⟩
  have hz : w.heap.size + 1 ≤ WB.heap.size := by rw [hWB]; simp
  have hA : Below w.heap.size w WB := by rw [hWB]; exact (Below.refl _ _).alloc (Nat.le_refl _) _
  have HWB := Lib.hid hWB
  have hMB := Lib.hid (hM.below hA)
  have hTB := Lib.hid (hT.below hA)
  clear hM hT
  go_enter Tryz.func7, Tryz.ntmps7
  go_wp2_with fail
  rw [← HWB.out]
  refine (splitWords s _ hs hMB.out).mono ?_
  rintro e w1 ⟨g, cap, rfl, hn, hm5, hg, hgl, hcell, hb⟩
  rw [HN.out] at hn hcell ⊢
  clear hcell
  have hW1 := hb.mono hz
  have hcc := fun b o h => hW1.cell (p := ⟨b, o, none⟩) h
  have hff := fun b o h => hW1.frozen (p := ⟨b, o, none⟩) h
  go_wp2_with fail
  exact bodyPost_ret (v := .tuple #[opV 0 0 0 0 0 0, .bool false]) (by simp [results, Tryz.results7, go_sem, hcc, hWB]) rfl ⟨rfl, (((((((hA.trans (hW1.mono (Nat.le_succ _))).setCell (Nat.le_refl _) _).setCell (Nat.le_refl _) _).setCell (Nat.le_refl _) _).setCell (Nat.le_refl _) _).setCell (Nat.le_refl _) _).setCell (Nat.le_refl _) _)⟩
set_option maxRecDepth 100000 in
set_option maxHeartbeats 8000000 in
theorem implParse_bad2 (s : ByteArray) (w : World) (p0 p1 : List UInt8) (hs : s.size ≤ 1048576) (HN : Hid ((wordsL s.data.toList).length = 2)) (G0 : Hid ((wordsL s.data.toList).getD 0 [] = p0)) (g0 : p0.length ≤ s.size) (G1 : Hid ((wordsL s.data.toList).getD 1 [] = p1)) (g1 : p1.length ≤ s.size) (hM : Mx w) (hT : Tab w) (b1 b2 : Bool) (HB1 : Hid (allPar [(Lib.cut p0 [46]).1, (Lib.cut p0 [46]).2.1] = b1)) (HB2 : Hid (allPar [] = b2)) (hbad : (b1 && b2) = false) :
    Calls Tryz.prog 7 #[.string s] w fun e w' => e = .returned (.tuple #[opV 0 0 0 0 0 0, .bool false]) ∧ Below w.heap.size w w' := by
  unfold opV
  obtain ⟨WB, hWB⟩ : ∃ W, W = w.alloc (.cells #[.int .i64 0, .int .i64 0, .int .i64 0, .int .i64 0, .int .i64 0, .int .i64 0] 25) := ⟨_, rfl⟩
  have hz : w.heap.size + 1 ≤ WB.heap.size := by rw [hWB]; simp
  have hA : Below w.heap.size w WB := by rw [hWB]; exact (Below.refl _ _).alloc (Nat.le_refl _) _
  have HWB := Lib.hid hWB
  have hMB := Lib.hid (hM.below hA)
  have hTB := Lib.hid (hT.below hA)
  clear hM hT
  go_enter Tryz.func7, Tryz.ntmps7
  go_wp2_with fail
  rw [← HWB.out]
  refine (splitWords s _ hs hMB.out).mono ?_
  rintro e w1 ⟨g, cap, rfl, hn, hm5, hg, hgl, hcell, hb⟩
  rw [HN.out] at hn hcell ⊢
  have k0 := hcell 0 (by omega)
  rw [G0.out] at k0
  have k1 := hcell 1 (by omega)
  rw [G1.out] at k1
  clear hcell
  have K1 := Lib.hid k1
  clear k1
  have hW1 := hb.mono hz
  have hM1 := hMB.out.below hb
  have hT1 := hTB.out.below hb
  have hz1 : w.heap.size + 1 ≤ w1.heap.size := Nat.le_trans hz hb.size
  clear hb
  go_wp2_with fail
  refine (cutDot p0 _ (by omega) hM1).mono ?_
  rintro e w2 ⟨rfl, hb2⟩
  have hc0 := cut_len p0
  generalize (Lib.cut p0 [46]).1 = cl at *
  generalize (Lib.cut p0 [46]).2.1 = sq at *
  generalize (Lib.cut p0 [46]).2.2 = fd at *
  have hT2 := hT1.below hb2
  have hz2 : w.heap.size + 1 ≤ w2.heap.size := Nat.le_trans hz1 hb2.size
  have hW2 := hW1.trans (hb2.mono hz1)
  have H12 := Lib.hid hb2
  clear hM1 hT1 hb2 k0
  go_wp2_with fail
  refine (parseInts _ 2 2 [cl, sq] _ rfl (by omega) (fun j => by rcases j with _ | _ | j <;> simp <;> omega) ?_ (hT2.below ((Below.refl _ _).alloc (Nat.le_refl _) _))).mono ?_
  · intro j hj
    refine ⟨⟨w2.heap.size, 0, none⟩, rfl, by simp, ?_⟩
    have e1 : (⟨w2.heap.size, 0, none⟩ : Addr).add j = ⟨w2.heap.size, j, none⟩ := by unfold Addr.add; split <;> simp_all
    rw [e1, World.cell?_alloc_at _ _ _ _ rfl]
    rcases j with _ | _ | j
    · rfl
    · rfl
    · simp at hj; omega
  rintro e w3 ⟨v8, he, ho8, hb3⟩
  rw [HB1.out] at he
  subst he
  have hA3 : Below w2.heap.size w2 w3 := ((Below.refl _ _).alloc (Nat.le_refl _) _).trans (hb3.mono (by simp))
  have ho8 : OwnI w2.heap.size w3 v8 (numsOf [cl, sq]) := ho8.mono (by simp)
  have hT3 := hT2.below hA3
  have hz3 : w.heap.size + 1 ≤ w3.heap.size := Nat.le_trans hz2 hA3.size
  have hW3 := hW2.trans (hA3.mono hz2)
  have H13 := Lib.hid (H12.out.trans (hA3.mono H12.out.size))
  have HO8 := Lib.hid ho8
  clear hT2 hb3 hA3 ho8 H12
  have hcs : cap = 2 ∨ 2 < cap := by omega
  rcases hcs with rfl | hcs
  · go_wp2_with fail
    refine (parseInts _ 0 _ [] _ rfl (by omega) (fun j => by simp) ?_ hT3).mono ?_
    · intro j hj
      simp at hj
    rintro e w4 ⟨v10, he, ho10, hb4⟩
    rw [HB2.out] at he
    subst he
    have hW4 := hW3.trans (hb4.mono hz3)
    have hz4 : w.heap.size + 1 ≤ w4.heap.size := Nat.le_trans hz3 hb4.size
    have k1 := (hb4.cell (p := ⟨g, 1, none⟩) (Nat.lt_of_lt_of_le hgl H13.out.size)).trans ((H13.out.cell (p := ⟨g, 1, none⟩) hgl).trans K1.out)
    have ho8 := HO8.out.later hb4
    have hgl4 : g < w4.heap.size := Nat.lt_of_lt_of_le (Nat.lt_of_lt_of_le hgl H13.out.size) hb4.size
    have hcc := fun b o h => hW4.cell (p := ⟨b, o, none⟩) h
    have hff := fun b o h => hW4.frozen (p := ⟨b, o, none⟩) h
    cases b1
    · go_wp2_with fail
      exact bodyPost_ret (v := .tuple #[opV 0 0 0 0 0 0, .bool false]) (by simp [results, Tryz.results7, go_sem, hcc, hWB]) rfl ⟨rfl, (((((((hA.trans (hW4.mono (Nat.le_succ _))).setCell (Nat.le_refl _) _).setCell (Nat.le_refl _) _).setCell (Nat.le_refl _) _).setCell (Nat.le_refl _) _).setCell (Nat.le_refl _) _).setCell (Nat.le_refl _) _)⟩
    · obtain rfl : b2 = false := by simpa using hbad
      go_wp2_with fail
      exact bodyPost_ret (v := .tuple #[opV 0 0 0 0 0 0, .bool false]) (by simp [results, Tryz.results7, go_sem, hcc, hWB]) rfl ⟨rfl, (((((((hA.trans (hW4.mono (Nat.le_succ _))).setCell (Nat.le_refl _) _).setCell (Nat.le_refl _) _).setCell (Nat.le_refl _) _).setCell (Nat.le_refl _) _).setCell (Nat.le_refl _) _).setCell (Nat.le_refl _) _)⟩
  · go_wp2_with fail
    refine (parseInts _ 0 _ [] _ rfl (by omega) (fun j => by simp) ?_ hT3).mono ?_
    · intro j hj
      simp at hj
    rintro e w4 ⟨v10, he, ho10, hb4⟩
    rw [HB2.out] at he
    subst he
    have hW4 := hW3.trans (hb4.mono hz3)
    have hz4 : w.heap.size + 1 ≤ w4.heap.size := Nat.le_trans hz3 hb4.size
    have k1 := (hb4.cell (p := ⟨g, 1, none⟩) (Nat.lt_of_lt_of_le hgl H13.out.size)).trans ((H13.out.cell (p := ⟨g, 1, none⟩) hgl).trans K1.out)
    have ho8 := HO8.out.later hb4
    have hgl4 : g < w4.heap.size := Nat.lt_of_lt_of_le (Nat.lt_of_lt_of_le hgl H13.out.size) hb4.size
    have hcc := fun b o h => hW4.cell (p := ⟨b, o, none⟩) h
    have hff := fun b o h => hW4.frozen (p := ⟨b, o, none⟩) h
    cases b1
    · go_wp2_with fail
      exact bodyPost_ret (v := .tuple #[opV 0 0 0 0 0 0, .bool false]) (by simp [results, Tryz.results7, go_sem, hcc, hWB]) rfl ⟨rfl, (((((((hA.trans (hW4.mono (Nat.le_succ _))).setCell (Nat.le_refl _) _).setCell (Nat.le_refl _) _).setCell (Nat.le_refl _) _).setCell (Nat.le_refl _) _).setCell (Nat.le_refl _) _).setCell (Nat.le_refl _) _)⟩
    · obtain rfl : b2 = false := by simpa using hbad
      go_wp2_with fail
      exact bodyPost_ret (v := .tuple #[opV 0 0 0 0 0 0, .bool false]) (by simp [results, Tryz.results7, go_sem, hcc, hWB]) rfl ⟨rfl, (((((((hA.trans (hW4.mono (Nat.le_succ _))).setCell (Nat.le_refl _) _).setCell (Nat.le_refl _) _).setCell (Nat.le_refl _) _).setCell (Nat.le_refl _) _).setCell (Nat.le_refl _) _).setCell (Nat.le_refl _) _)⟩
set_option maxRecDepth 100000 in
set_option maxHeartbeats 8000000 in
theorem implParse_none2 (s : ByteArray) (w : World) (p0 p1 : List UInt8) (hs : s.size ≤ 1048576) (HN : Hid ((wordsL s.data.toList).length = 2)) (G0 : Hid ((wordsL s.data.toList).getD 0 [] = p0)) (g0 : p0.length ≤ s.size) (G1 : Hid ((wordsL s.data.toList).getD 1 [] = p1)) (g1 : p1.length ≤ s.size) (hM : Mx w) (hT : Tab w) (HB1 : Hid (allPar [(Lib.cut p0 [46]).1, (Lib.cut p0 [46]).2.1] = true)) (HB2 : Hid (allPar [] = true))  :
    Calls Tryz.prog 7 #[.string s] w fun e w' => e = .returned (.tuple #[opV 0 0 0 0 0 0, .bool false]) ∧ Below w.heap.size w w' := by
  unfold opV
  obtain ⟨WB, hWB⟩ : ∃ W, W = w.alloc (.cells #[.int .i64 0, .int .i64 0, .int .i64 0, .int .i64 0, .int .i64 0, .int .i64 0] 25) := ⟨_, rfl⟩
  have hz : w.heap.size + 1 ≤ WB.heap.size := by rw [hWB]; simp
  have hA : Below w.heap.size w WB := by rw [hWB]; exact (Below.refl _ _).alloc (Nat.le_refl _) _
  have HWB := Lib.hid hWB
  have hMB := Lib.hid (hM.below hA)
  have hTB := Lib.hid (hT.below hA)
  clear hM hT
  go_enter Tryz.func7, Tryz.ntmps7
  go_wp2_with fail
  rw [← HWB.out]
  refine (splitWords s _ hs hMB.out).mono ?_
  rintro e w1 ⟨g, cap, rfl, hn, hm5, hg, hgl, hcell, hb⟩
  rw [HN.out] at hn hcell ⊢
  have k0 := hcell 0 (by omega)
  rw [G0.out] at k0
  have k1 := hcell 1 (by omega)
  rw [G1.out] at k1
  clear hcell
  have K1 := Lib.hid k1
  clear k1
  have hW1 := hb.mono hz
  have hM1 := hMB.out.below hb
  have hT1 := hTB.out.below hb
  have hz1 : w.heap.size + 1 ≤ w1.heap.size := Nat.le_trans hz hb.size
  clear hb
  go_wp2_with fail
  refine (cutDot p0 _ (by omega) hM1).mono ?_
  rintro e w2 ⟨rfl, hb2⟩
  have hc0 := cut_len p0
  generalize (Lib.cut p0 [46]).1 = cl at *
  generalize (Lib.cut p0 [46]).2.1 = sq at *
  generalize (Lib.cut p0 [46]).2.2 = fd at *
  have hT2 := hT1.below hb2
  have hz2 : w.heap.size + 1 ≤ w2.heap.size := Nat.le_trans hz1 hb2.size
  have hW2 := hW1.trans (hb2.mono hz1)
  have H12 := Lib.hid hb2
  clear hM1 hT1 hb2 k0
  go_wp2_with fail
  refine (parseInts _ 2 2 [cl, sq] _ rfl (by omega) (fun j => by rcases j with _ | _ | j <;> simp <;> omega) ?_ (hT2.below ((Below.refl _ _).alloc (Nat.le_refl _) _))).mono ?_
  · intro j hj
    refine ⟨⟨w2.heap.size, 0, none⟩, rfl, by simp, ?_⟩
    have e1 : (⟨w2.heap.size, 0, none⟩ : Addr).add j = ⟨w2.heap.size, j, none⟩ := by unfold Addr.add; split <;> simp_all
    rw [e1, World.cell?_alloc_at _ _ _ _ rfl]
    rcases j with _ | _ | j
    · rfl
    · rfl
    · simp at hj; omega
  rintro e w3 ⟨v8, he, ho8, hb3⟩
  rw [HB1.out] at he
  subst he
  have hA3 : Below w2.heap.size w2 w3 := ((Below.refl _ _).alloc (Nat.le_refl _) _).trans (hb3.mono (by simp))
  have ho8 : OwnI w2.heap.size w3 v8 (numsOf [cl, sq]) := ho8.mono (by simp)
  have hT3 := hT2.below hA3
  have hz3 : w.heap.size + 1 ≤ w3.heap.size := Nat.le_trans hz2 hA3.size
  have hW3 := hW2.trans (hA3.mono hz2)
  have H13 := Lib.hid (H12.out.trans (hA3.mono H12.out.size))
  have HO8 := Lib.hid ho8
  clear hT2 hb3 hA3 ho8 H12
  have hcs : cap = 2 ∨ 2 < cap := by omega
  rcases hcs with rfl | hcs
  · go_wp2_with fail
    refine (parseInts _ 0 _ [] _ rfl (by omega) (fun j => by simp) ?_ hT3).mono ?_
    · intro j hj
      simp at hj
    rintro e w4 ⟨v10, he, ho10, hb4⟩
    rw [HB2.out] at he
    subst he
    have hW4 := hW3.trans (hb4.mono hz3)
    have hz4 : w.heap.size + 1 ≤ w4.heap.size := Nat.le_trans hz3 hb4.size
    have k1 := (hb4.cell (p := ⟨g, 1, none⟩) (Nat.lt_of_lt_of_le hgl H13.out.size)).trans ((H13.out.cell (p := ⟨g, 1, none⟩) hgl).trans K1.out)
    have ho8 := HO8.out.later hb4
    have hgl4 : g < w4.heap.size := Nat.lt_of_lt_of_le (Nat.lt_of_lt_of_le hgl H13.out.size) hb4.size
    have hnum : (numsOf []).length = 0 := by unfold numsOf; rw [HB2.out]; simp
    obtain ⟨a10, c10, rfl, hle, hmx, _, _⟩ := ho10.form
    rw [hnum] at hle ⊢
    unfold maxLen at hmx
    go_wp2_with fail
    refine (actionNone p1 _ 0 _ _ (fun h => absurd h.2 (by decide)) (fun h => absurd h.2 (by decide))).mono ?_
    rintro e w5 ⟨rfl, hb5⟩
    have hW5 := hW4.trans (hb5.mono hz4)
    have hcc := fun b o h => hW5.cell (p := ⟨b, o, none⟩) h
    have hff := fun b o h => hW5.frozen (p := ⟨b, o, none⟩) h
    go_wp2_with fail
    exact bodyPost_ret (v := .tuple #[opV 0 0 0 0 0 0, .bool false]) (by simp [results, Tryz.results7, go_sem, hcc, hWB]) rfl ⟨rfl, (((((((hA.trans (hW5.mono (Nat.le_succ _))).setCell (Nat.le_refl _) _).setCell (Nat.le_refl _) _).setCell (Nat.le_refl _) _).setCell (Nat.le_refl _) _).setCell (Nat.le_refl _) _).setCell (Nat.le_refl _) _)⟩
  · go_wp2_with fail
    refine (parseInts _ 0 _ [] _ rfl (by omega) (fun j => by simp) ?_ hT3).mono ?_
    · intro j hj
      simp at hj
    rintro e w4 ⟨v10, he, ho10, hb4⟩
    rw [HB2.out] at he
    subst he
    have hW4 := hW3.trans (hb4.mono hz3)
    have hz4 : w.heap.size + 1 ≤ w4.heap.size := Nat.le_trans hz3 hb4.size
    have k1 := (hb4.cell (p := ⟨g, 1, none⟩) (Nat.lt_of_lt_of_le hgl H13.out.size)).trans ((H13.out.cell (p := ⟨g, 1, none⟩) hgl).trans K1.out)
    have ho8 := HO8.out.later hb4
    have hgl4 : g < w4.heap.size := Nat.lt_of_lt_of_le (Nat.lt_of_lt_of_le hgl H13.out.size) hb4.size
    have hnum : (numsOf []).length = 0 := by unfold numsOf; rw [HB2.out]; simp
    obtain ⟨a10, c10, rfl, hle, hmx, _, _⟩ := ho10.form
    rw [hnum] at hle ⊢
    unfold maxLen at hmx
    go_wp2_with fail
    refine (actionNone p1 _ 0 _ _ (fun h => absurd h.2 (by decide)) (fun h => absurd h.2 (by decide))).mono ?_
    rintro e w5 ⟨rfl, hb5⟩
    have hW5 := hW4.trans (hb5.mono hz4)
    have hcc := fun b o h => hW5.cell (p := ⟨b, o, none⟩) h
    have hff := fun b o h => hW5.frozen (p := ⟨b, o, none⟩) h
    go_wp2_with fail
    exact bodyPost_ret (v := .tuple #[opV 0 0 0 0 0 0, .bool false]) (by simp [results, Tryz.results7, go_sem, hcc, hWB]) rfl ⟨rfl, (((((((hA.trans (hW5.mono (Nat.le_succ _))).setCell (Nat.le_refl _) _).setCell (Nat.le_refl _) _).setCell (Nat.le_refl _) _).setCell (Nat.le_refl _) _).setCell (Nat.le_refl _) _).setCell (Nat.le_refl _) _)⟩
set_option maxRecDepth 100000 in
set_option maxHeartbeats 8000000 in
theorem implParse_bad3 (s : ByteArray) (w : World) (p0 p1 p2 : List UInt8) (hs : s.size ≤ 1048576) (HN : Hid ((wordsL s.data.toList).length = 3)) (G0 : Hid ((wordsL s.data.toList).getD 0 [] = p0)) (g0 : p0.length ≤ s.size) (G1 : Hid ((wordsL s.data.toList).getD 1 [] = p1)) (g1 : p1.length ≤ s.size) (G2 : Hid ((wordsL s.data.toList).getD 2 [] = p2)) (g2 : p2.length ≤ s.size) (hM : Mx w) (hT : Tab w) (b1 b2 : Bool) (HB1 : Hid (allPar [(Lib.cut p0 [46]).1, (Lib.cut p0 [46]).2.1] = b1)) (HB2 : Hid (allPar [p2] = b2)) (hbad : (b1 && b2) = false) :
    Calls Tryz.prog 7 #[.string s] w fun e w' => e = .returned (.tuple #[opV 0 0 0 0 0 0, .bool false]) ∧ Below w.heap.size w w' := by
  unfold opV
  obtain ⟨WB, hWB⟩ : ∃ W, W = w.alloc (.cells #[.int .i64 0, .int .i64 0, .int .i64 0, .int .i64 0, .int .i64 0, .int .i64 0] 25) := ⟨_, rfl⟩
  have hz : w.heap.size + 1 ≤ WB.heap.size := by rw [hWB]; simp
  have hA : Below w.heap.size w WB := by rw [hWB]; exact (Below.refl _ _).alloc (Nat.le_refl _) _
  have HWB := Lib.hid hWB
  have hMB := Lib.hid (hM.below hA)
  have hTB := Lib.hid (hT.below hA)
  clear hM hT
  go_enter Tryz.func7, Tryz.ntmps7
  go_wp2_with fail
  rw [← HWB.out]
  refine (splitWords s _ hs hMB.out).mono ?_
  rintro e w1 ⟨g, cap, rfl, hn, hm5, hg, hgl, hcell, hb⟩
  rw [HN.out] at hn hcell ⊢
  have k0 := hcell 0 (by omega)
  rw [G0.out] at k0
  have k1 := hcell 1 (by omega)
  rw [G1.out] at k1
  have k2 := hcell 2 (by omega)
  rw [G2.out] at k2
  clear hcell
  have K1 := Lib.hid k1
  have K2 := Lib.hid k2
  clear k1 k2
  have hW1 := hb.mono hz
  have hM1 := hMB.out.below hb
  have hT1 := hTB.out.below hb
  have hz1 : w.heap.size + 1 ≤ w1.heap.size := Nat.le_trans hz hb.size
  clear hb
  go_wp2_with fail
  refine (cutDot p0 _ (by omega) hM1).mono ?_
  rintro e w2 ⟨rfl, hb2⟩
  have hc0 := cut_len p0
  generalize (Lib.cut p0 [46]).1 = cl at *
  generalize (Lib.cut p0 [46]).2.1 = sq at *
  generalize (Lib.cut p0 [46]).2.2 = fd at *
  have hT2 := hT1.below hb2
  have hz2 : w.heap.size + 1 ≤ w2.heap.size := Nat.le_trans hz1 hb2.size
  have hW2 := hW1.trans (hb2.mono hz1)
  have H12 := Lib.hid hb2
  clear hM1 hT1 hb2 k0
  go_wp2_with fail
  refine (parseInts _ 2 2 [cl, sq] _ rfl (by omega) (fun j => by rcases j with _ | _ | j <;> simp <;> omega) ?_ (hT2.below ((Below.refl _ _).alloc (Nat.le_refl _) _))).mono ?_
  · intro j hj
    refine ⟨⟨w2.heap.size, 0, none⟩, rfl, by simp, ?_⟩
    have e1 : (⟨w2.heap.size, 0, none⟩ : Addr).add j = ⟨w2.heap.size, j, none⟩ := by unfold Addr.add; split <;> simp_all
    rw [e1, World.cell?_alloc_at _ _ _ _ rfl]
    rcases j with _ | _ | j
    · rfl
    · rfl
    · simp at hj; omega
  rintro e w3 ⟨v8, he, ho8, hb3⟩
  rw [HB1.out] at he
  subst he
  have hA3 : Below w2.heap.size w2 w3 := ((Below.refl _ _).alloc (Nat.le_refl _) _).trans (hb3.mono (by simp))
  have ho8 : OwnI w2.heap.size w3 v8 (numsOf [cl, sq]) := ho8.mono (by simp)
  have hT3 := hT2.below hA3
  have hz3 : w.heap.size + 1 ≤ w3.heap.size := Nat.le_trans hz2 hA3.size
  have hW3 := hW2.trans (hA3.mono hz2)
  have H13 := Lib.hid (H12.out.trans (hA3.mono H12.out.size))
  have HO8 := Lib.hid ho8
  clear hT2 hb3 hA3 ho8 H12
  go_wp2_with fail
  refine (parseInts _ 1 _ [p2] _ rfl (by omega) (fun j => by rcases j with _ | j <;> simp <;> omega) ?_ hT3).mono ?_
  · intro j hj
    refine ⟨⟨g, 2, none⟩, rfl, Nat.lt_of_lt_of_le hgl H13.out.size, ?_⟩
    have e1 : (⟨g, 2, none⟩ : Addr).add j = ⟨g, 2 + j, none⟩ := by unfold Addr.add; split <;> simp_all
    rw [e1, H13.out.cell (p := ⟨g, 2 + j, none⟩) hgl]
    rcases j with _ | j
    · exact K2.out
    · simp at hj <;> omega
  rintro e w4 ⟨v10, he, ho10, hb4⟩
  rw [HB2.out] at he
  subst he
  have hW4 := hW3.trans (hb4.mono hz3)
  have hz4 : w.heap.size + 1 ≤ w4.heap.size := Nat.le_trans hz3 hb4.size
  have k1 := (hb4.cell (p := ⟨g, 1, none⟩) (Nat.lt_of_lt_of_le hgl H13.out.size)).trans ((H13.out.cell (p := ⟨g, 1, none⟩) hgl).trans K1.out)
  have ho8 := HO8.out.later hb4
  have hgl4 : g < w4.heap.size := Nat.lt_of_lt_of_le (Nat.lt_of_lt_of_le hgl H13.out.size) hb4.size
  have hcc := fun b o h => hW4.cell (p := ⟨b, o, none⟩) h
  have hff := fun b o h => hW4.frozen (p := ⟨b, o, none⟩) h
  cases b1
  · go_wp2_with fail
    exact bodyPost_ret (v := .tuple #[opV 0 0 0 0 0 0, .bool false]) (by simp [results, Tryz.results7, go_sem, hcc, hWB]) rfl ⟨rfl, (((((((hA.trans (hW4.mono (Nat.le_succ _))).setCell (Nat.le_refl _) _).setCell (Nat.le_refl _) _).setCell (Nat.le_refl _) _).setCell (Nat.le_refl _) _).setCell (Nat.le_refl _) _).setCell (Nat.le_refl _) _)⟩
  · obtain rfl : b2 = false := by simpa using hbad
    go_wp2_with fail
    exact bodyPost_ret (v := .tuple #[opV 0 0 0 0 0 0, .bool false]) (by simp [results, Tryz.results7, go_sem, hcc, hWB]) rfl ⟨rfl, (((((((hA.trans (hW4.mono (Nat.le_succ _))).setCell (Nat.le_refl _) _).setCell (Nat.le_refl _) _).setCell (Nat.le_refl _) _).setCell (Nat.le_refl _) _).setCell (Nat.le_refl _) _).setCell (Nat.le_refl _) _)⟩
set_option maxRecDepth 100000 in
set_option maxHeartbeats 8000000 in
theorem implParse_none3 (s : ByteArray) (w : World) (p0 p1 p2 : List UInt8) (hs : s.size ≤ 1048576) (HN : Hid ((wordsL s.data.toList).length = 3)) (G0 : Hid ((wordsL s.data.toList).getD 0 [] = p0)) (g0 : p0.length ≤ s.size) (G1 : Hid ((wordsL s.data.toList).getD 1 [] = p1)) (g1 : p1.length ≤ s.size) (G2 : Hid ((wordsL s.data.toList).getD 2 [] = p2)) (g2 : p2.length ≤ s.size) (hM : Mx w) (hT : Tab w) (HB1 : Hid (allPar [(Lib.cut p0 [46]).1, (Lib.cut p0 [46]).2.1] = true)) (HB2 : Hid (allPar [p2] = true))  :
    Calls Tryz.prog 7 #[.string s] w fun e w' => e = .returned (.tuple #[opV 0 0 0 0 0 0, .bool false]) ∧ Below w.heap.size w w' := by
  unfold opV
  obtain ⟨WB, hWB⟩ : ∃ W, W = w.alloc (.cells #[.int .i64 0, .int .i64 0, .int .i64 0, .int .i64 0, .int .i64 0, .int .i64 0] 25) := ⟨_, rfl⟩
  have hz : w.heap.size + 1 ≤ WB.heap.size := by rw [hWB]; simp
  have hA : Below w.heap.size w WB := by rw [hWB]; exact (Below.refl _ _).alloc (Nat.le_refl _) _
  have HWB := Lib.hid hWB
  have hMB := Lib.hid (hM.below hA)
  have hTB := Lib.hid (hT.below hA)
  clear hM hT
  go_enter Tryz.func7, Tryz.ntmps7
  go_wp2_with fail
  rw [← HWB.out]
  refine (splitWords s _ hs hMB.out).mono ?_
  rintro e w1 ⟨g, cap, rfl, hn, hm5, hg, hgl, hcell, hb⟩
  rw [HN.out] at hn hcell ⊢
  have k0 := hcell 0 (by omega)
  rw [G0.out] at k0
  have k1 := hcell 1 (by omega)
  rw [G1.out] at k1
  have k2 := hcell 2 (by omega)
  rw [G2.out] at k2
  clear hcell
  have K1 := Lib.hid k1
  have K2 := Lib.hid k2
  clear k1 k2
  have hW1 := hb.mono hz
  have hM1 := hMB.out.below hb
  have hT1 := hTB.out.below hb
  have hz1 : w.heap.size + 1 ≤ w1.heap.size := Nat.le_trans hz hb.size
  clear hb
  go_wp2_with fail
  refine (cutDot p0 _ (by omega) hM1).mono ?_
  rintro e w2 ⟨rfl, hb2⟩
  have hc0 := cut_len p0
  generalize (Lib.cut p0 [46]).1 = cl at *
  generalize (Lib.cut p0 [46]).2.1 = sq at *
  generalize (Lib.cut p0 [46]).2.2 = fd at *
  have hT2 := hT1.below hb2
  have hz2 : w.heap.size + 1 ≤ w2.heap.size := Nat.le_trans hz1 hb2.size
  have hW2 := hW1.trans (hb2.mono hz1)
  have H12 := Lib.hid hb2
  clear hM1 hT1 hb2 k0
  go_wp2_with fail
  refine (parseInts _ 2 2 [cl, sq] _ rfl (by omega) (fun j => by rcases j with _ | _ | j <;> simp <;> omega) ?_ (hT2.below ((Below.refl _ _).alloc (Nat.le_refl _) _))).mono ?_
  · intro j hj
    refine ⟨⟨w2.heap.size, 0, none⟩, rfl, by simp, ?_⟩
    have e1 : (⟨w2.heap.size, 0, none⟩ : Addr).add j = ⟨w2.heap.size, j, none⟩ := by unfold Addr.add; split <;> simp_all
    rw [e1, World.cell?_alloc_at _ _ _ _ rfl]
    rcases j with _ | _ | j
    · rfl
    · rfl
    · simp at hj; omega
  rintro e w3 ⟨v8, he, ho8, hb3⟩
  rw [HB1.out] at he
  subst he
  have hA3 : Below w2.heap.size w2 w3 := ((Below.refl _ _).alloc (Nat.le_refl _) _).trans (hb3.mono (by simp))
  have ho8 : OwnI w2.heap.size w3 v8 (numsOf [cl, sq]) := ho8.mono (by simp)
  have hT3 := hT2.below hA3
  have hz3 : w.heap.size + 1 ≤ w3.heap.size := Nat.le_trans hz2 hA3.size
  have hW3 := hW2.trans (hA3.mono hz2)
  have H13 := Lib.hid (H12.out.trans (hA3.mono H12.out.size))
  have HO8 := Lib.hid ho8
  clear hT2 hb3 hA3 ho8 H12
  go_wp2_with fail
  refine (parseInts _ 1 _ [p2] _ rfl (by omega) (fun j => by rcases j with _ | j <;> simp <;> omega) ?_ hT3).mono ?_
  · intro j hj
    refine ⟨⟨g, 2, none⟩, rfl, Nat.lt_of_lt_of_le hgl H13.out.size, ?_⟩
    have e1 : (⟨g, 2, none⟩ : Addr).add j = ⟨g, 2 + j, none⟩ := by unfold Addr.add; split <;> simp_all
    rw [e1, H13.out.cell (p := ⟨g, 2 + j, none⟩) hgl]
    rcases j with _ | j
    · exact K2.out
    · simp at hj <;> omega
  rintro e w4 ⟨v10, he, ho10, hb4⟩
  rw [HB2.out] at he
  subst he
  have hW4 := hW3.trans (hb4.mono hz3)
  have hz4 : w.heap.size + 1 ≤ w4.heap.size := Nat.le_trans hz3 hb4.size
  have k1 := (hb4.cell (p := ⟨g, 1, none⟩) (Nat.lt_of_lt_of_le hgl H13.out.size)).trans ((H13.out.cell (p := ⟨g, 1, none⟩) hgl).trans K1.out)
  have ho8 := HO8.out.later hb4
  have hgl4 : g < w4.heap.size := Nat.lt_of_lt_of_le (Nat.lt_of_lt_of_le hgl H13.out.size) hb4.size
  have hnum : (numsOf [p2]).length = 1 := by unfold numsOf; rw [HB2.out]; simp
  obtain ⟨a10, c10, rfl, hle, hmx, _, _⟩ := ho10.form
  rw [hnum] at hle ⊢
  unfold maxLen at hmx
  go_wp2_with fail
  refine (actionNone p1 _ 1 _ _ (fun h => absurd h.2 (by decide)) (fun h => absurd h.2 (by decide))).mono ?_
  rintro e w5 ⟨rfl, hb5⟩
  have hW5 := hW4.trans (hb5.mono hz4)
  have hcc := fun b o h => hW5.cell (p := ⟨b, o, none⟩) h
  have hff := fun b o h => hW5.frozen (p := ⟨b, o, none⟩) h
  go_wp2_with fail
  exact bodyPost_ret (v := .tuple #[opV 0 0 0 0 0 0, .bool false]) (by simp [results, Tryz.results7, go_sem, hcc, hWB]) rfl ⟨rfl, (((((((hA.trans (hW5.mono (Nat.le_succ _))).setCell (Nat.le_refl _) _).setCell (Nat.le_refl _) _).setCell (Nat.le_refl _) _).setCell (Nat.le_refl _) _).setCell (Nat.le_refl _) _).setCell (Nat.le_refl _) _)⟩
set_option maxRecDepth 100000 in
set_option maxHeartbeats 8000000 in
theorem implParse_bad4 (s : ByteArray) (w : World) (p0 p1 p2 p3 : List UInt8) (hs : s.size ≤ 1048576) (HN : Hid ((wordsL s.data.toList).length = 4)) (G0 : Hid ((wordsL s.data.toList).getD 0 [] = p0)) (g0 : p0.length ≤ s.size) (G1 : Hid ((wordsL s.data.toList).getD 1 [] = p1)) (g1 : p1.length ≤ s.size) (G2 : Hid ((wordsL s.data.toList).getD 2 [] = p2)) (g2 : p2.length ≤ s.size) (G3 : Hid ((wordsL s.data.toList).getD 3 [] = p3)) (g3 : p3.length ≤ s.size) (hM : Mx w) (hT : Tab w) (b1 b2 : Bool) (HB1 : Hid (allPar [(Lib.cut p0 [46]).1, (Lib.cut p0 [46]).2.1] = b1)) (HB2 : Hid (allPar [p2, p3] = b2)) (hbad : (b1 && b2) = false) :
    Calls Tryz.prog 7 #[.string s] w fun e w' => e = .returned (.tuple #[opV 0 0 0 0 0 0, .bool false]) ∧ Below w.heap.size w w' := by
  unfold opV
  obtain ⟨WB, hWB⟩ : ∃ W, W = w.alloc (.cells #[.int .i64 0, .int .i64 0, .int .i64 0, .int .i64 0, .int .i64 0, .int .i64 0] 25) := ⟨_, rfl⟩
  have hz : w.heap.size + 1 ≤ WB.heap.size := by rw [hWB]; simp
  have hA : Below w.heap.size w WB := by rw [hWB]; exact (Below.refl _ _).alloc (Nat.le_refl _) _
  have HWB := Lib.hid hWB
  have hMB := Lib.hid (hM.below hA)
  have hTB := Lib.hid (hT.below hA)
  clear hM hT
  go_enter Tryz.func7, Tryz.ntmps7
  go_wp2_with fail
  rw [← HWB.out]
  refine (splitWords s _ hs hMB.out).mono ?_
  rintro e w1 ⟨g, cap, rfl, hn, hm5, hg, hgl, hcell, hb⟩
  rw [HN.out] at hn hcell ⊢
  have k0 := hcell 0 (by omega)
  rw [G0.out] at k0
  have k1 := hcell 1 (by omega)
  rw [G1.out] at k1
  have k2 := hcell 2 (by omega)
  rw [G2.out] at k2
  have k3 := hcell 3 (by omega)
  rw [G3.out] at k3
  clear hcell
  have K1 := Lib.hid k1
  have K2 := Lib.hid k2
  have K3 := Lib.hid k3
  clear k1 k2 k3
  have hW1 := hb.mono hz
  have hM1 := hMB.out.below hb
  have hT1 := hTB.out.below hb
  have hz1 : w.heap.size + 1 ≤ w1.heap.size := Nat.le_trans hz hb.size
  clear hb
  go_wp2_with fail
  refine (cutDot p0 _ (by omega) hM1).mono ?_
  rintro e w2 ⟨rfl, hb2⟩
  have hc0 := cut_len p0
  generalize (Lib.cut p0 [46]).1 = cl at *
  generalize (Lib.cut p0 [46]).2.1 = sq at *
  generalize (Lib.cut p0 [46]).2.2 = fd at *
  have hT2 := hT1.below hb2
  have hz2 : w.heap.size + 1 ≤ w2.heap.size := Nat.le_trans hz1 hb2.size
  have hW2 := hW1.trans (hb2.mono hz1)
  have H12 := Lib.hid hb2
  clear hM1 hT1 hb2 k0
  go_wp2_with fail
  refine (parseInts _ 2 2 [cl, sq] _ rfl (by omega) (fun j => by rcases j with _ | _ | j <;> simp <;> omega) ?_ (hT2.below ((Below.refl _ _).alloc (Nat.le_refl _) _))).mono ?_
  · intro j hj
    refine ⟨⟨w2.heap.size, 0, none⟩, rfl, by simp, ?_⟩
    have e1 : (⟨w2.heap.size, 0, none⟩ : Addr).add j = ⟨w2.heap.size, j, none⟩ := by unfold Addr.add; split <;> simp_all
    rw [e1, World.cell?_alloc_at _ _ _ _ rfl]
    rcases j with _ | _ | j
    · rfl
    · rfl
    · simp at hj; omega
  rintro e w3 ⟨v8, he, ho8, hb3⟩
  rw [HB1.out] at he
  subst he
  have hA3 : Below w2.heap.size w2 w3 := ((Below.refl _ _).alloc (Nat.le_refl _) _).trans (hb3.mono (by simp))
  have ho8 : OwnI w2.heap.size w3 v8 (numsOf [cl, sq]) := ho8.mono (by simp)
  have hT3 := hT2.below hA3
  have hz3 : w.heap.size + 1 ≤ w3.heap.size := Nat.le_trans hz2 hA3.size
  have hW3 := hW2.trans (hA3.mono hz2)
  have H13 := Lib.hid (H12.out.trans (hA3.mono H12.out.size))
  have HO8 := Lib.hid ho8
  clear hT2 hb3 hA3 ho8 H12
  go_wp2_with fail
  refine (parseInts _ 2 _ [p2, p3] _ rfl (by omega) (fun j => by rcases j with _ | _ | j <;> simp <;> omega) ?_ hT3).mono ?_
  · intro j hj
    refine ⟨⟨g, 2, none⟩, rfl, Nat.lt_of_lt_of_le hgl H13.out.size, ?_⟩
    have e1 : (⟨g, 2, none⟩ : Addr).add j = ⟨g, 2 + j, none⟩ := by unfold Addr.add; split <;> simp_all
    rw [e1, H13.out.cell (p := ⟨g, 2 + j, none⟩) hgl]
    rcases j with _ | _ | j
    · exact K2.out
    · exact K3.out
    · simp at hj <;> omega
  rintro e w4 ⟨v10, he, ho10, hb4⟩
  rw [HB2.out] at he
  subst he
  have hW4 := hW3.trans (hb4.mono hz3)
  have hz4 : w.heap.size + 1 ≤ w4.heap.size := Nat.le_trans hz3 hb4.size
  have k1 := (hb4.cell (p := ⟨g, 1, none⟩) (Nat.lt_of_lt_of_le hgl H13.out.size)).trans ((H13.out.cell (p := ⟨g, 1, none⟩) hgl).trans K1.out)
  have ho8 := HO8.out.later hb4
  have hgl4 : g < w4.heap.size := Nat.lt_of_lt_of_le (Nat.lt_of_lt_of_le hgl H13.out.size) hb4.size
  have hcc := fun b o h => hW4.cell (p := ⟨b, o, none⟩) h
  have hff := fun b o h => hW4.frozen (p := ⟨b, o, none⟩) h
  cases b1
  · go_wp2_with fail
    exact bodyPost_ret (v := .tuple #[opV 0 0 0 0 0 0, .bool false]) (by simp [results, Tryz.results7, go_sem, hcc, hWB]) rfl ⟨rfl, (((((((hA.trans (hW4.mono (Nat.le_succ _))).setCell (Nat.le_refl _) _).setCell (Nat.le_refl _) _).setCell (Nat.le_refl _) _).setCell (Nat.le_refl _) _).setCell (Nat.le_refl _) _).setCell (Nat.le_refl _) _)⟩
  · obtain rfl : b2 = false := by simpa using hbad
    go_wp2_with fail
    exact bodyPost_ret (v := .tuple #[opV 0 0 0 0 0 0, .bool false]) (by simp [results, Tryz.results7, go_sem, hcc, hWB]) rfl ⟨rfl, (((((((hA.trans (hW4.mono (Nat.le_succ _))).setCell (Nat.le_refl _) _).setCell (Nat.le_refl _) _).setCell (Nat.le_refl _) _).setCell (Nat.le_refl _) _).setCell (Nat.le_refl _) _).setCell (Nat.le_refl _) _)⟩
set_option maxRecDepth 100000 in
set_option maxHeartbeats 8000000 in
theorem implParse_none4 (s : ByteArray) (w : World) (p0 p1 p2 p3 : List UInt8) (hs : s.size ≤ 1048576) (HN : Hid ((wordsL s.data.toList).length = 4)) (G0 : Hid ((wordsL s.data.toList).getD 0 [] = p0)) (g0 : p0.length ≤ s.size) (G1 : Hid ((wordsL s.data.toList).getD 1 [] = p1)) (g1 : p1.length ≤ s.size) (G2 : Hid ((wordsL s.data.toList).getD 2 [] = p2)) (g2 : p2.length ≤ s.size) (G3 : Hid ((wordsL s.data.toList).getD 3 [] = p3)) (g3 : p3.length ≤ s.size) (hM : Mx w) (hT : Tab w) (HB1 : Hid (allPar [(Lib.cut p0 [46]).1, (Lib.cut p0 [46]).2.1] = true)) (HB2 : Hid (allPar [p2, p3] = true)) (h1 : Hid (p1 ≠ wW)) :
    Calls Tryz.prog 7 #[.string s] w fun e w' => e = .returned (.tuple #[opV 0 0 0 0 0 0, .bool false]) ∧ Below w.heap.size w w' := by
  unfold opV
  obtain ⟨WB, hWB⟩ : ∃ W, W = w.alloc (.cells #[.int .i64 0, .int .i64 0, .int .i64 0, .int .i64 0, .int .i64 0, .int .i64 0] 25) := ⟨_, rfl⟩
  have hz : w.heap.size + 1 ≤ WB.heap.size := by rw [hWB]; simp
  have hA : Below w.heap.size w WB := by rw [hWB]; exact (Below.refl _ _).alloc (Nat.le_refl _) _
  have HWB := Lib.hid hWB
  have hMB := Lib.hid (hM.below hA)
  have hTB := Lib.hid (hT.below hA)
  clear hM hT
  go_enter Tryz.func7, Tryz.ntmps7
  go_wp2_with fail
  rw [← HWB.out]
  refine (splitWords s _ hs hMB.out).mono ?_
  rintro e w1 ⟨g, cap, rfl, hn, hm5, hg, hgl, hcell, hb⟩
  rw [HN.out] at hn hcell ⊢
  have k0 := hcell 0 (by omega)
  rw [G0.out] at k0
  have k1 := hcell 1 (by omega)
  rw [G1.out] at k1
  have k2 := hcell 2 (by omega)
  rw [G2.out] at k2
  have k3 := hcell 3 (by omega)
  rw [G3.out] at k3
  clear hcell
  have K1 := Lib.hid k1
  have K2 := Lib.hid k2
  have K3 := Lib.hid k3
  clear k1 k2 k3
  have hW1 := hb.mono hz
  have hM1 := hMB.out.below hb
  have hT1 := hTB.out.below hb
  have hz1 : w.heap.size + 1 ≤ w1.heap.size := Nat.le_trans hz hb.size
  clear hb
  go_wp2_with fail
  refine (cutDot p0 _ (by omega) hM1).mono ?_
  rintro e w2 ⟨rfl, hb2⟩
  have hc0 := cut_len p0
  generalize (Lib.cut p0 [46]).1 = cl at *
  generalize (Lib.cut p0 [46]).2.1 = sq at *
  generalize (Lib.cut p0 [46]).2.2 = fd at *
  have hT2 := hT1.below hb2
  have hz2 : w.heap.size + 1 ≤ w2.heap.size := Nat.le_trans hz1 hb2.size
  have hW2 := hW1.trans (hb2.mono hz1)
  have H12 := Lib.hid hb2
  clear hM1 hT1 hb2 k0
  go_wp2_with fail
  refine (parseInts _ 2 2 [cl, sq] _ rfl (by omega) (fun j => by rcases j with _ | _ | j <;> simp <;> omega) ?_ (hT2.below ((Below.refl _ _).alloc (Nat.le_refl _) _))).mono ?_
  · intro j hj
    refine ⟨⟨w2.heap.size, 0, none⟩, rfl, by simp, ?_⟩
    have e1 : (⟨w2.heap.size, 0, none⟩ : Addr).add j = ⟨w2.heap.size, j, none⟩ := by unfold Addr.add; split <;> simp_all
    rw [e1, World.cell?_alloc_at _ _ _ _ rfl]
    rcases j with _ | _ | j
    · rfl
    · rfl
    · simp at hj; omega
  rintro e w3 ⟨v8, he, ho8, hb3⟩
  rw [HB1.out] at he
  subst he
  have hA3 : Below w2.heap.size w2 w3 := ((Below.refl _ _).alloc (Nat.le_refl _) _).trans (hb3.mono (by simp))
  have ho8 : OwnI w2.heap.size w3 v8 (numsOf [cl, sq]) := ho8.mono (by simp)
  have hT3 := hT2.below hA3
  have hz3 : w.heap.size + 1 ≤ w3.heap.size := Nat.le_trans hz2 hA3.size
  have hW3 := hW2.trans (hA3.mono hz2)
  have H13 := Lib.hid (H12.out.trans (hA3.mono H12.out.size))
  have HO8 := Lib.hid ho8
  clear hT2 hb3 hA3 ho8 H12
  go_wp2_with fail
  refine (parseInts _ 2 _ [p2, p3] _ rfl (by omega) (fun j => by rcases j with _ | _ | j <;> simp <;> omega) ?_ hT3).mono ?_
  · intro j hj
    refine ⟨⟨g, 2, none⟩, rfl, Nat.lt_of_lt_of_le hgl H13.out.size, ?_⟩
    have e1 : (⟨g, 2, none⟩ : Addr).add j = ⟨g, 2 + j, none⟩ := by unfold Addr.add; split <;> simp_all
    rw [e1, H13.out.cell (p := ⟨g, 2 + j, none⟩) hgl]
    rcases j with _ | _ | j
    · exact K2.out
    · exact K3.out
    · simp at hj <;> omega
  rintro e w4 ⟨v10, he, ho10, hb4⟩
  rw [HB2.out] at he
  subst he
  have hW4 := hW3.trans (hb4.mono hz3)
  have hz4 : w.heap.size + 1 ≤ w4.heap.size := Nat.le_trans hz3 hb4.size
  have k1 := (hb4.cell (p := ⟨g, 1, none⟩) (Nat.lt_of_lt_of_le hgl H13.out.size)).trans ((H13.out.cell (p := ⟨g, 1, none⟩) hgl).trans K1.out)
  have ho8 := HO8.out.later hb4
  have hgl4 : g < w4.heap.size := Nat.lt_of_lt_of_le (Nat.lt_of_lt_of_le hgl H13.out.size) hb4.size
  have hnum : (numsOf [p2, p3]).length = 2 := by unfold numsOf; rw [HB2.out]; simp
  obtain ⟨a10, c10, rfl, hle, hmx, _, _⟩ := ho10.form
  rw [hnum] at hle ⊢
  unfold maxLen at hmx
  go_wp2_with fail
  refine (actionNone p1 _ 2 _ _ (fun h => h1.out h.1) (fun h => absurd h.2 (by decide))).mono ?_
  rintro e w5 ⟨rfl, hb5⟩
  have hW5 := hW4.trans (hb5.mono hz4)
  have hcc := fun b o h => hW5.cell (p := ⟨b, o, none⟩) h
  have hff := fun b o h => hW5.frozen (p := ⟨b, o, none⟩) h
  clear h1
  go_wp2_with fail
  exact bodyPost_ret (v := .tuple #[opV 0 0 0 0 0 0, .bool false]) (by simp [results, Tryz.results7, go_sem, hcc, hWB]) rfl ⟨rfl, (((((((hA.trans (hW5.mono (Nat.le_succ _))).setCell (Nat.le_refl _) _).setCell (Nat.le_refl _) _).setCell (Nat.le_refl _) _).setCell (Nat.le_refl _) _).setCell (Nat.le_refl _) _).setCell (Nat.le_refl _) _)⟩
set_option maxRecDepth 100000 in
set_option maxHeartbeats 8000000 in
theorem implParse_bad5 (s : ByteArray) (w : World) (p0 p1 p2 p3 p4 : List UInt8) (hs : s.size ≤ 1048576) (HN : Hid ((wordsL s.data.toList).length = 5)) (G0 : Hid ((wordsL s.data.toList).getD 0 [] = p0)) (g0 : p0.length ≤ s.size) (G1 : Hid ((wordsL s.data.toList).getD 1 [] = p1)) (g1 : p1.length ≤ s.size) (G2 : Hid ((wordsL s.data.toList).getD 2 [] = p2)) (g2 : p2.length ≤ s.size) (G3 : Hid ((wordsL s.data.toList).getD 3 [] = p3)) (g3 : p3.length ≤ s.size) (G4 : Hid ((wordsL s.data.toList).getD 4 [] = p4)) (g4 : p4.length ≤ s.size) (hM : Mx w) (hT : Tab w) (b1 b2 : Bool) (HB1 : Hid (allPar [(Lib.cut p0 [46]).1, (Lib.cut p0 [46]).2.1] = b1)) (HB2 : Hid (allPar [p2, p3, p4] = b2)) (hbad : (b1 && b2) = false) :
    Calls Tryz.prog 7 #[.string s] w fun e w' => e = .returned (.tuple #[opV 0 0 0 0 0 0, .bool false]) ∧ Below w.heap.size w w' := by
  unfold opV
  obtain ⟨WB, hWB⟩ : ∃ W, W = w.alloc (.cells #[.int .i64 0, .int .i64 0, .int .i64 0, .int .i64 0, .int .i64 0, .int .i64 0] 25) := ⟨_, rfl⟩
  have hz : w.heap.size + 1 ≤ WB.heap.size := by rw [hWB]; simp
  have hA : Below w.heap.size w WB := by rw [hWB]; exact (Below.refl _ _).alloc (Nat.le_refl _) _
  have HWB := Lib.hid hWB
  have hMB := Lib.hid (hM.below hA)
  have hTB := Lib.hid (hT.below hA)
  clear hM hT
  go_enter Tryz.func7, Tryz.ntmps7
  go_wp2_with fail
  rw [← HWB.out]
  refine (splitWords s _ hs hMB.out).mono ?_
  rintro e w1 ⟨g, cap, rfl, hn, hm5, hg, hgl, hcell, hb⟩
  rw [HN.out] at hn hcell ⊢
  have k0 := hcell 0 (by omega)
  rw [G0.out] at k0
  have k1 := hcell 1 (by omega)
  rw [G1.out] at k1
  have k2 := hcell 2 (by omega)
  rw [G2.out] at k2
  have k3 := hcell 3 (by omega)
  rw [G3.out] at k3
  have k4 := hcell 4 (by omega)
  rw [G4.out] at k4
  clear hcell
  have K1 := Lib.hid k1
  have K2 := Lib.hid k2
  have K3 := Lib.hid k3
  have K4 := Lib.hid k4
  clear k1 k2 k3 k4
  have hW1 := hb.mono hz
  have hM1 := hMB.out.below hb
  have hT1 := hTB.out.below hb
  have hz1 : w.heap.size + 1 ≤ w1.heap.size := Nat.le_trans hz hb.size
  clear hb
  go_wp2_with fail
  refine (cutDot p0 _ (by omega) hM1).mono ?_
  rintro e w2 ⟨rfl, hb2⟩
  have hc0 := cut_len p0
  generalize (Lib.cut p0 [46]).1 = cl at *
  generalize (Lib.cut p0 [46]).2.1 = sq at *
  generalize (Lib.cut p0 [46]).2.2 = fd at *
  have hT2 := hT1.below hb2
  have hz2 : w.heap.size + 1 ≤ w2.heap.size := Nat.le_trans hz1 hb2.size
  have hW2 := hW1.trans (hb2.mono hz1)
  have H12 := Lib.hid hb2
  clear hM1 hT1 hb2 k0
  go_wp2_with fail
  refine (parseInts _ 2 2 [cl, sq] _ rfl (by omega) (fun j => by rcases j with _ | _ | j <;> simp <;> omega) ?_ (hT2.below ((Below.refl _ _).alloc (Nat.le_refl _) _))).mono ?_
  · intro j hj
    refine ⟨⟨w2.heap.size, 0, none⟩, rfl, by simp, ?_⟩
    have e1 : (⟨w2.heap.size, 0, none⟩ : Addr).add j = ⟨w2.heap.size, j, none⟩ := by unfold Addr.add; split <;> simp_all
    rw [e1, World.cell?_alloc_at _ _ _ _ rfl]
    rcases j with _ | _ | j
    · rfl
    · rfl
    · simp at hj; omega
  rintro e w3 ⟨v8, he, ho8, hb3⟩
  rw [HB1.out] at he
  subst he
  have hA3 : Below w2.heap.size w2 w3 := ((Below.refl _ _).alloc (Nat.le_refl _) _).trans (hb3.mono (by simp))
  have ho8 : OwnI w2.heap.size w3 v8 (numsOf [cl, sq]) := ho8.mono (by simp)
  have hT3 := hT2.below hA3
  have hz3 : w.heap.size + 1 ≤ w3.heap.size := Nat.le_trans hz2 hA3.size
  have hW3 := hW2.trans (hA3.mono hz2)
  have H13 := Lib.hid (H12.out.trans (hA3.mono H12.out.size))
  have HO8 := Lib.hid ho8
  clear hT2 hb3 hA3 ho8 H12
  go_wp2_with fail
  refine (parseInts _ 3 _ [p2, p3, p4] _ rfl (by omega) (fun j => by rcases j with _ | _ | _ | j <;> simp <;> omega) ?_ hT3).mono ?_
  · intro j hj
    refine ⟨⟨g, 2, none⟩, rfl, Nat.lt_of_lt_of_le hgl H13.out.size, ?_⟩
    have e1 : (⟨g, 2, none⟩ : Addr).add j = ⟨g, 2 + j, none⟩ := by unfold Addr.add; split <;> simp_all
    rw [e1, H13.out.cell (p := ⟨g, 2 + j, none⟩) hgl]
    rcases j with _ | _ | _ | j
    · exact K2.out
    · exact K3.out
    · exact K4.out
    · simp at hj <;> omega
  rintro e w4 ⟨v10, he, ho10, hb4⟩
  rw [HB2.out] at he
  subst he
  have hW4 := hW3.trans (hb4.mono hz3)
  have hz4 : w.heap.size + 1 ≤ w4.heap.size := Nat.le_trans hz3 hb4.size
  have k1 := (hb4.cell (p := ⟨g, 1, none⟩) (Nat.lt_of_lt_of_le hgl H13.out.size)).trans ((H13.out.cell (p := ⟨g, 1, none⟩) hgl).trans K1.out)
  have ho8 := HO8.out.later hb4
  have hgl4 : g < w4.heap.size := Nat.lt_of_lt_of_le (Nat.lt_of_lt_of_le hgl H13.out.size) hb4.size
  have hcc := fun b o h => hW4.cell (p := ⟨b, o, none⟩) h
  have hff := fun b o h => hW4.frozen (p := ⟨b, o, none⟩) h
  cases b1
  · go_wp2_with fail
    exact bodyPost_ret (v := .tuple #[opV 0 0 0 0 0 0, .bool false]) (by simp [results, Tryz.results7, go_sem, hcc, hWB]) rfl ⟨rfl, (((((((hA.trans (hW4.mono (Nat.le_succ _))).setCell (Nat.le_refl _) _).setCell (Nat.le_refl _) _).setCell (Nat.le_refl _) _).setCell (Nat.le_refl _) _).setCell (Nat.le_refl _) _).setCell (Nat.le_refl _) _)⟩
  · obtain rfl : b2 = false := by simpa using hbad
    go_wp2_with fail
    exact bodyPost_ret (v := .tuple #[opV 0 0 0 0 0 0, .bool false]) (by simp [results, Tryz.results7, go_sem, hcc, hWB]) rfl ⟨rfl, (((((((hA.trans (hW4.mono (Nat.le_succ _))).setCell (Nat.le_refl _) _).setCell (Nat.le_refl _) _).setCell (Nat.le_refl _) _).setCell (Nat.le_refl _) _).setCell (Nat.le_refl _) _).setCell (Nat.le_refl _) _)⟩
set_option maxRecDepth 100000 in
set_option maxHeartbeats 8000000 in
theorem implParse_none5 (s : ByteArray) (w : World) (p0 p1 p2 p3 p4 : List UInt8) (hs : s.size ≤ 1048576) (HN : Hid ((wordsL s.data.toList).length = 5)) (G0 : Hid ((wordsL s.data.toList).getD 0 [] = p0)) (g0 : p0.length ≤ s.size) (G1 : Hid ((wordsL s.data.toList).getD 1 [] = p1)) (g1 : p1.length ≤ s.size) (G2 : Hid ((wordsL s.data.toList).getD 2 [] = p2)) (g2 : p2.length ≤ s.size) (G3 : Hid ((wordsL s.data.toList).getD 3 [] = p3)) (g3 : p3.length ≤ s.size) (G4 : Hid ((wordsL s.data.toList).getD 4 [] = p4)) (g4 : p4.length ≤ s.size) (hM : Mx w) (hT : Tab w) (HB1 : Hid (allPar [(Lib.cut p0 [46]).1, (Lib.cut p0 [46]).2.1] = true)) (HB2 : Hid (allPar [p2, p3, p4] = true)) (h2 : Hid (p1 ≠ wS)) :
    Calls Tryz.prog 7 #[.string s] w fun e w' => e = .returned (.tuple #[opV 0 0 0 0 0 0, .bool false]) ∧ Below w.heap.size w w' := by
  unfold opV
  obtain ⟨WB, hWB⟩ : ∃ W, W = w.alloc (.cells #[.int .i64 0, .int .i64 0, .int .i64 0, .int .i64 0, .int .i64 0, .int .i64 0] 25) := ⟨_, rfl⟩
  have hz : w.heap.size + 1 ≤ WB.heap.size := by rw [hWB]; simp
  have hA : Below w.heap.size w WB := by rw [hWB]; exact (Below.refl _ _).alloc (Nat.le_refl _) _
  have HWB := Lib.hid hWB
  have hMB := Lib.hid (hM.below hA)
  have hTB := Lib.hid (hT.below hA)
  clear hM hT
  go_enter Tryz.func7, Tryz.ntmps7
  go_wp2_with fail
  rw [← HWB.out]
  refine (splitWords s _ hs hMB.out).mono ?_
  rintro e w1 ⟨g, cap, rfl, hn, hm5, hg, hgl, hcell, hb⟩
  rw [HN.out] at hn hcell ⊢
  have k0 := hcell 0 (by omega)
  rw [G0.out] at k0
  have k1 := hcell 1 (by omega)
  rw [G1.out] at k1
  have k2 := hcell 2 (by omega)
  rw [G2.out] at k2
  have k3 := hcell 3 (by omega)
  rw [G3.out] at k3
  have k4 := hcell 4 (by omega)
  rw [G4.out] at k4
  clear hcell
  have K1 := Lib.hid k1
  have K2 := Lib.hid k2
  have K3 := Lib.hid k3
  have K4 := Lib.hid k4
  clear k1 k2 k3 k4
  have hW1 := hb.mono hz
  have hM1 := hMB.out.below hb
  have hT1 := hTB.out.below hb
  have hz1 : w.heap.size + 1 ≤ w1.heap.size := Nat.le_trans hz hb.size
  clear hb
  go_wp2_with fail
  refine (cutDot p0 _ (by omega) hM1).mono ?_
  rintro e w2 ⟨rfl, hb2⟩
  have hc0 := cut_len p0
  generalize (Lib.cut p0 [46]).1 = cl at *
  generalize (Lib.cut p0 [46]).2.1 = sq at *
  generalize (Lib.cut p0 [46]).2.2 = fd at *
  have hT2 := hT1.below hb2
  have hz2 : w.heap.size + 1 ≤ w2.heap.size := Nat.le_trans hz1 hb2.size
  have hW2 := hW1.trans (hb2.mono hz1)
  have H12 := Lib.hid hb2
  clear hM1 hT1 hb2 k0
  go_wp2_with fail
  refine (parseInts _ 2 2 [cl, sq] _ rfl (by omega) (fun j => by rcases j with _ | _ | j <;> simp <;> omega) ?_ (hT2.below ((Below.refl _ _).alloc (Nat.le_refl _) _))).mono ?_
  · intro j hj
    refine ⟨⟨w2.heap.size, 0, none⟩, rfl, by simp, ?_⟩
    have e1 : (⟨w2.heap.size, 0, none⟩ : Addr).add j = ⟨w2.heap.size, j, none⟩ := by unfold Addr.add; split <;> simp_all
    rw [e1, World.cell?_alloc_at _ _ _ _ rfl]
    rcases j with _ | _ | j
    · rfl
    · rfl
    · simp at hj; omega
  rintro e w3 ⟨v8, he, ho8, hb3⟩
  rw [HB1.out] at he
  subst he
  have hA3 : Below w2.heap.size w2 w3 := ((Below.refl _ _).alloc (Nat.le_refl _) _).trans (hb3.mono (by simp))
  have ho8 : OwnI w2.heap.size w3 v8 (numsOf [cl, sq]) := ho8.mono (by simp)
  have hT3 := hT2.below hA3
  have hz3 : w.heap.size + 1 ≤ w3.heap.size := Nat.le_trans hz2 hA3.size
  have hW3 := hW2.trans (hA3.mono hz2)
  have H13 := Lib.hid (H12.out.trans (hA3.mono H12.out.size))
  have HO8 := Lib.hid ho8
  clear hT2 hb3 hA3 ho8 H12
  go_wp2_with fail
  refine (parseInts _ 3 _ [p2, p3, p4] _ rfl (by omega) (fun j => by rcases j with _ | _ | _ | j <;> simp <;> omega) ?_ hT3).mono ?_
  · intro j hj
    refine ⟨⟨g, 2, none⟩, rfl, Nat.lt_of_lt_of_le hgl H13.out.size, ?_⟩
    have e1 : (⟨g, 2, none⟩ : Addr).add j = ⟨g, 2 + j, none⟩ := by unfold Addr.add; split <;> simp_all
    rw [e1, H13.out.cell (p := ⟨g, 2 + j, none⟩) hgl]
    rcases j with _ | _ | _ | j
    · exact K2.out
    · exact K3.out
    · exact K4.out
    · simp at hj <;> omega
  rintro e w4 ⟨v10, he, ho10, hb4⟩
  rw [HB2.out] at he
  subst he
  have hW4 := hW3.trans (hb4.mono hz3)
  have hz4 : w.heap.size + 1 ≤ w4.heap.size := Nat.le_trans hz3 hb4.size
  have k1 := (hb4.cell (p := ⟨g, 1, none⟩) (Nat.lt_of_lt_of_le hgl H13.out.size)).trans ((H13.out.cell (p := ⟨g, 1, none⟩) hgl).trans K1.out)
  have ho8 := HO8.out.later hb4
  have hgl4 : g < w4.heap.size := Nat.lt_of_lt_of_le (Nat.lt_of_lt_of_le hgl H13.out.size) hb4.size
  have hnum : (numsOf [p2, p3, p4]).length = 3 := by unfold numsOf; rw [HB2.out]; simp
  obtain ⟨a10, c10, rfl, hle, hmx, _, _⟩ := ho10.form
  rw [hnum] at hle ⊢
  unfold maxLen at hmx
  go_wp2_with fail
  refine (actionNone p1 _ 3 _ _ (fun h => absurd h.2 (by decide)) (fun h => h2.out h.1)).mono ?_
  rintro e w5 ⟨rfl, hb5⟩
  have hW5 := hW4.trans (hb5.mono hz4)
  have hcc := fun b o h => hW5.cell (p := ⟨b, o, none⟩) h
  have hff := fun b o h => hW5.frozen (p := ⟨b, o, none⟩) h
  clear h2
  go_wp2_with fail
  exact bodyPost_ret (v := .tuple #[opV 0 0 0 0 0 0, .bool false]) (by simp [results, Tryz.results7, go_sem, hcc, hWB]) rfl ⟨rfl, (((((((hA.trans (hW5.mono (Nat.le_succ _))).setCell (Nat.le_refl _) _).setCell (Nat.le_refl _) _).setCell (Nat.le_refl _) _).setCell (Nat.le_refl _) _).setCell (Nat.le_refl _) _).setCell (Nat.le_refl _) _)⟩
set_option maxRecDepth 100000 in
set_option maxHeartbeats 8000000 in
theorem implParse_write_true (s : ByteArray) (w : World) (p0 p1 p2 p3 : List UInt8) (hs : s.size ≤ 1048576) (HN : Hid ((wordsL s.data.toList).length = 4)) (G0 : Hid ((wordsL s.data.toList).getD 0 [] = p0)) (g0 : p0.length ≤ s.size) (G1 : Hid ((wordsL s.data.toList).getD 1 [] = p1)) (g1 : p1.length ≤ s.size) (G2 : Hid ((wordsL s.data.toList).getD 2 [] = p2)) (g2 : p2.length ≤ s.size) (G3 : Hid ((wordsL s.data.toList).getD 3 [] = p3)) (g3 : p3.length ≤ s.size) (hM : Mx w) (hT : Tab w) (nc ns no nv : Int) (HB1 : Hid (allPar [(Lib.cut p0 [46]).1, (Lib.cut p0 [46]).2.1] = true)) (HB2 : Hid (allPar [p2, p3] = true)) (HC : Hid (parN (Lib.cut p0 [46]).1 = nc)) (HD : Hid (parN (Lib.cut p0 [46]).2.1 = ns)) (E2 : Hid (parN p2 = no)) (E3 : Hid (parN p3 = nv)) (hw : Hid (p1 = wW)) (hok : Hid (okOp nc ns 1 no 0 nv = true)) :
    Calls Tryz.prog 7 #[.string s] w fun e w' => e = .returned (.tuple #[opV nc ns 1 no 0 nv, .bool true]) ∧ Below w.heap.size w w' := by
  unfold opV
  obtain ⟨WB, hWB⟩ : ∃ W, W = w.alloc (.cells #[.int .i64 0, .int .i64 0, .int .i64 0, .int .i64 0, .int .i64 0, .int .i64 0] 25) := ⟨_, rfl⟩
  have hz : w.heap.size + 1 ≤ WB.heap.size := by rw [hWB]; simp
  have hA : Below w.heap.size w WB := by rw [hWB]; exact (Below.refl _ _).alloc (Nat.le_refl _) _
  have HWB := Lib.hid hWB
  have hMB := Lib.hid (hM.below hA)
  have hTB := Lib.hid (hT.below hA)
  clear hM hT
  go_enter Tryz.func7, Tryz.ntmps7
  go_wp2_with fail
  rw [← HWB.out]
  refine (splitWords s _ hs hMB.out).mono ?_
  rintro e w1 ⟨g, cap, rfl, hn, hm5, hg, hgl, hcell, hb⟩
  rw [HN.out] at hn hcell ⊢
  have k0 := hcell 0 (by omega)
  rw [G0.out] at k0
  have k1 := hcell 1 (by omega)
  rw [G1.out] at k1
  have k2 := hcell 2 (by omega)
  rw [G2.out] at k2
  have k3 := hcell 3 (by omega)
  rw [G3.out] at k3
  clear hcell
  have K1 := Lib.hid k1
  have K2 := Lib.hid k2
  have K3 := Lib.hid k3
  clear k1 k2 k3
  have hW1 := hb.mono hz
  have hM1 := hMB.out.below hb
  have hT1 := hTB.out.below hb
  have hz1 : w.heap.size + 1 ≤ w1.heap.size := Nat.le_trans hz hb.size
  clear hb
  go_wp2_with fail
  refine (cutDot p0 _ (by omega) hM1).mono ?_
  rintro e w2 ⟨rfl, hb2⟩
  have hc0 := cut_len p0
  generalize (Lib.cut p0 [46]).1 = cl at *
  generalize (Lib.cut p0 [46]).2.1 = sq at *
  generalize (Lib.cut p0 [46]).2.2 = fd at *
  have hT2 := hT1.below hb2
  have hz2 : w.heap.size + 1 ≤ w2.heap.size := Nat.le_trans hz1 hb2.size
  have hW2 := hW1.trans (hb2.mono hz1)
  have H12 := Lib.hid hb2
  clear hM1 hT1 hb2 k0
  go_wp2_with fail
  refine (parseInts _ 2 2 [cl, sq] _ rfl (by omega) (fun j => by rcases j with _ | _ | j <;> simp <;> omega) ?_ (hT2.below ((Below.refl _ _).alloc (Nat.le_refl _) _))).mono ?_
  · intro j hj
    refine ⟨⟨w2.heap.size, 0, none⟩, rfl, by simp, ?_⟩
    have e1 : (⟨w2.heap.size, 0, none⟩ : Addr).add j = ⟨w2.heap.size, j, none⟩ := by unfold Addr.add; split <;> simp_all
    rw [e1, World.cell?_alloc_at _ _ _ _ rfl]
    rcases j with _ | _ | j
    · rfl
    · rfl
    · simp at hj; omega
  rintro e w3 ⟨v8, he, ho8, hb3⟩
  rw [HB1.out] at he
  subst he
  have hA3 : Below w2.heap.size w2 w3 := ((Below.refl _ _).alloc (Nat.le_refl _) _).trans (hb3.mono (by simp))
  have ho8 : OwnI w2.heap.size w3 v8 (numsOf [cl, sq]) := ho8.mono (by simp)
  have hT3 := hT2.below hA3
  have hz3 : w.heap.size + 1 ≤ w3.heap.size := Nat.le_trans hz2 hA3.size
  have hW3 := hW2.trans (hA3.mono hz2)
  have H13 := Lib.hid (H12.out.trans (hA3.mono H12.out.size))
  have HO8 := Lib.hid ho8
  clear hT2 hb3 hA3 ho8 H12
  go_wp2_with fail
  refine (parseInts _ 2 _ [p2, p3] _ rfl (by omega) (fun j => by rcases j with _ | _ | j <;> simp <;> omega) ?_ hT3).mono ?_
  · intro j hj
    refine ⟨⟨g, 2, none⟩, rfl, Nat.lt_of_lt_of_le hgl H13.out.size, ?_⟩
    have e1 : (⟨g, 2, none⟩ : Addr).add j = ⟨g, 2 + j, none⟩ := by unfold Addr.add; split <;> simp_all
    rw [e1, H13.out.cell (p := ⟨g, 2 + j, none⟩) hgl]
    rcases j with _ | _ | j
    · exact K2.out
    · exact K3.out
    · simp at hj <;> omega
  rintro e w4 ⟨v10, he, ho10, hb4⟩
  rw [HB2.out] at he
  subst he
  have hW4 := hW3.trans (hb4.mono hz3)
  have hz4 : w.heap.size + 1 ≤ w4.heap.size := Nat.le_trans hz3 hb4.size
  have k1 := (hb4.cell (p := ⟨g, 1, none⟩) (Nat.lt_of_lt_of_le hgl H13.out.size)).trans ((H13.out.cell (p := ⟨g, 1, none⟩) hgl).trans K1.out)
  have ho8 := HO8.out.later hb4
  have hgl4 : g < w4.heap.size := Nat.lt_of_lt_of_le (Nat.lt_of_lt_of_le hgl H13.out.size) hb4.size
  have hn8 : numsOf [cl, sq] = [nc, ns] := by unfold numsOf; rw [HB1.out]; simp [HC.out, HD.out]
  have hn10 : numsOf [p2, p3] = [no, nv] := by unfold numsOf; rw [HB2.out]; simp [E2.out, E3.out]
  rw [hn8] at ho8
  rw [hn10] at ho10
  clear hn8 hn10
  obtain ⟨g8, c8, rfl, hc8, hm8, hl8, q0, q1⟩ := OwnI.two ho8
  obtain ⟨g10, c10, rfl, hc10, hm10, hl10, r0, r1⟩ := OwnI.two ho10
  unfold maxLen at hm8 hm10
  have hMax := hm8
  rw [hw.out] at k1
  clear ho8 ho10
  go_wp2_with fail
  refine (actionWrite g10 c10 no nv _ hc10 r0 r1).mono ?_
  rintro e w5 ⟨rfl, hb5⟩
  have hW5 := hW4.trans (hb5.mono hz4)
  replace q0 := (hb5.cell (p := ⟨g8, 0, none⟩) hl8).trans q0
  replace q1 := (hb5.cell (p := ⟨g8, 1, none⟩) hl8).trans q1
  have hq8 : g8 < w5.heap.size := Nat.lt_of_lt_of_le hl8 hb5.size
  clear r0 r1 k1 hb5 hb4
  obtain ⟨W0, HW0⟩ : ∃ W, Hid (W = w5) := ⟨_, Lib.hid rfl⟩
  have hz5 : W0.heap.size ≤ W0.heap.size := Nat.le_refl _
  have hk : Below W0.heap.size W0 w5 ∧ (∀ b o, b < W0.heap.size → w5.cell? ⟨b, o, none⟩ = W0.cell? ⟨b, o, none⟩) := by rw [← HW0.out]; exact kept_of (Below.refl _ _)
  rw [← HW0.out] at q0 q1 hq8
  have hcc := hk.2
  have hy := Lib.hid hk.1.size
  have hM12 := hMax
  clear hMax
  go_upto_region 12 with (fail)
  go_cut [14] (fun p wx => ∃ b, p = .pointer (some ⟨b, 0, none⟩) ∧ W0.heap.size ≤ b ∧ Below W0.heap.size W0 wx ∧ OpAt wx b nc ns 1 no 0 nv)
  case rest =>
    obtain ⟨b, rfl, hb0, hB, hOp⟩ := hcut
    have hW6 : Below (w.heap.size + 1) WB wc := hW5.trans (by rw [← HW0.out]; exact hB.mono (Nat.le_trans hz (Nat.le_trans hW5.size (by rw [HW0.out]; exact Nat.le_refl _))))
    have hz6 : w.heap.size + 1 ≤ wc.heap.size := Nat.le_trans hz hW6.size
    have hb9 : w.heap.size < b := Nat.lt_of_lt_of_le hz (Nat.le_trans (Nat.le_trans hW5.size (by rw [HW0.out]; exact Nat.le_refl _)) hb0)
    clear hcc hk q0 q1
    have HOp := Lib.hid hOp
    obtain ⟨z0, z1, z2, z3, z4, z5, y0, y1, y2, y3, y4, y5⟩ := hOp
    go_wp2_with fail
    refine (implIsValidOp _ _ _ _ _ _ _).mono ?_
    rintro e w7 ⟨he, hb7⟩
    rw [hok.out] at he
    subst he
    clear z0 z1 z2 z3 z4 z5 y0 y1 y2 y3 y4 y5
    obtain ⟨z0, z1, z2, z3, z4, z5, y0, y1, y2, y3, y4, y5⟩ := OpAt.later HOp.out hb7
    have hW7 := hW6.trans (hb7.mono hz6)
    have hcc := fun b o h => hW7.cell (p := ⟨b, o, none⟩) h
    have hff := fun b o h => hW7.frozen (p := ⟨b, o, none⟩) h
    go_wp2_with fail
    exact bodyPost_ret (v := .tuple #[opV nc ns 1 no 0 nv, .bool true]) (by simp [results, Tryz.results7, go_sem, hcc, hWB]) rfl ⟨rfl, (((((((hA.trans (hW7.mono (Nat.le_succ _))).setCell (Nat.le_refl _) _).setCell (Nat.le_refl _) _).setCell (Nat.le_refl _) _).setCell (Nat.le_refl _) _).setCell (Nat.le_refl _) _).setCell (Nat.le_refl _) _)⟩
  case first =>
    rename_i J K2 hJ hM2
    clear hcc
    have hnil : ∀ (a : Value) (w : World), (nilAhead 296 116 a "loop.example/g01926/impl.op").run Tryz.prog w = .ok (some false) w := fun a w => by kernel_rfl
    go_region_held3 (fun w' => Below W0.heap.size W0 w' ∧ (∀ b o, b < W0.heap.size → w'.cell? ⟨b, o, none⟩ = W0.cell? ⟨b, o, none⟩))
      (first | (with_reducible assumption) | ((with_reducible refine kept_drew ?_); with_reducible assumption) | ((with_reducible refine kept_alloc ?_ hz5 _); with_reducible assumption) | ((with_reducible refine kept_drew ?_); (with_reducible refine kept_alloc ?_ hz5 _); with_reducible assumption) | ((with_reducible refine kept_next (w := ?_) ?_ ?_ hz5); rotate_left; with_reducible assumption; with_reducible assumption) | ((with_reducible refine kept_store (x := ?_) ?_ ?_ _); rotate_left; with_reducible assumption; with_reducible assumption) | ((with_reducible refine kept_set ?_ ?_ _ _ _ _ _ _) <;> with_reducible assumption))
      (first | (go_at_call 158; refine (writeOp no nv nc ns _).mono ?_; rintro e w9 ⟨rfl, hb9⟩; have hy := Lib.hid (kept_size (by with_reducible assumption) hb9 hz5); (first | have hq := OpAt.later (show OpAt _ _ 0 0 0 0 0 0 by with_reducible assumption) hb9 | have hq := OpAt.later (OpAt.alloc _) hb9 | have hq := OpAt.later (OpAt.alloc _).drew hb9 | skip); (first | (have hq' := hq; obtain ⟨z0, z1, z2, z3, z4, z5, y0, y1, y2, y3, y4, y5⟩ := hq') | skip)))
    all_goals
      rename_i hS
      clear q0 q1 hk hnil
      have HS := Lib.hid hS
      clear hS
      refine hM2 _ _ ?_
      refine Met.intro ?_
      go_step
      (repeat apply Exists.intro)
      refine ⟨?_, rfl⟩
      refine ⟨_, rfl, Hid.out (by with_reducible assumption), HS.out.1, ?_⟩
      first
        | (with_reducible exact OpAt.alloc _)
        | ((with_reducible refine OpAt.store (c := 0) (s := 0) (k := 0) (o := 0) (d := 0) (v := 0) ?_ _ _ _ _ _ _); with_reducible assumption)
set_option maxRecDepth 100000 in
set_option maxHeartbeats 8000000 in
theorem implParse_write_false (s : ByteArray) (w : World) (p0 p1 p2 p3 : List UInt8) (hs : s.size ≤ 1048576) (HN : Hid ((wordsL s.data.toList).length = 4)) (G0 : Hid ((wordsL s.data.toList).getD 0 [] = p0)) (g0 : p0.length ≤ s.size) (G1 : Hid ((wordsL s.data.toList).getD 1 [] = p1)) (g1 : p1.length ≤ s.size) (G2 : Hid ((wordsL s.data.toList).getD 2 [] = p2)) (g2 : p2.length ≤ s.size) (G3 : Hid ((wordsL s.data.toList).getD 3 [] = p3)) (g3 : p3.length ≤ s.size) (hM : Mx w) (hT : Tab w) (nc ns no nv : Int) (HB1 : Hid (allPar [(Lib.cut p0 [46]).1, (Lib.cut p0 [46]).2.1] = true)) (HB2 : Hid (allPar [p2, p3] = true)) (HC : Hid (parN (Lib.cut p0 [46]).1 = nc)) (HD : Hid (parN (Lib.cut p0 [46]).2.1 = ns)) (E2 : Hid (parN p2 = no)) (E3 : Hid (parN p3 = nv)) (hw : Hid (p1 = wW)) (hok : Hid (okOp nc ns 1 no 0 nv = false)) :
    Calls Tryz.prog 7 #[.string s] w fun e w' => e = .returned (.tuple #[opV 0 0 0 0 0 0, .bool false]) ∧ Below w.heap.size w w' := by
  unfold opV
  obtain ⟨WB, hWB⟩ : ∃ W, W = w.alloc (.cells #[.int .i64 0, .int .i64 0, .int .i64 0, .int .i64 0, .int .i64 0, .int .i64 0] 25) := ⟨_, rfl⟩
  have hz : w.heap.size + 1 ≤ WB.heap.size := by rw [hWB]; simp
  have hA : Below w.heap.size w WB := by rw [hWB]; exact (Below.refl _ _).alloc (Nat.le_refl _) _
  have HWB := Lib.hid hWB
  have hMB := Lib.hid (hM.below hA)
  have hTB := Lib.hid (hT.below hA)
  clear hM hT
  go_enter Tryz.func7, Tryz.ntmps7
  go_wp2_with fail
  rw [← HWB.out]
  refine (splitWords s _ hs hMB.out).mono ?_
  rintro e w1 ⟨g, cap, rfl, hn, hm5, hg, hgl, hcell, hb⟩
  rw [HN.out] at hn hcell ⊢
  have k0 := hcell 0 (by omega)
  rw [G0.out] at k0
  have k1 := hcell 1 (by omega)
  rw [G1.out] at k1
  have k2 := hcell 2 (by omega)
  rw [G2.out] at k2
  have k3 := hcell 3 (by omega)
  rw [G3.out] at k3
  clear hcell
  have K1 := Lib.hid k1
  have K2 := Lib.hid k2
  have K3 := Lib.hid k3
  clear k1 k2 k3
  have hW1 := hb.mono hz
  have hM1 := hMB.out.below hb
  have hT1 := hTB.out.below hb
  have hz1 : w.heap.size + 1 ≤ w1.heap.size := Nat.le_trans hz hb.size
  clear hb
  go_wp2_with fail
  refine (cutDot p0 _ (by omega) hM1).mono ?_
  rintro e w2 ⟨rfl, hb2⟩
  have hc0 := cut_len p0
  generalize (Lib.cut p0 [46]).1 = cl at *
  generalize (Lib.cut p0 [46]).2.1 = sq at *
  generalize (Lib.cut p0 [46]).2.2 = fd at *
  have hT2 := hT1.below hb2
  have hz2 : w.heap.size + 1 ≤ w2.heap.size := Nat.le_trans hz1 hb2.size
  have hW2 := hW1.trans (hb2.mono hz1)
  have H12 := Lib.hid hb2
  clear hM1 hT1 hb2 k0
  go_wp2_with fail
  refine (parseInts _ 2 2 [cl, sq] _ rfl (by omega) (fun j => by rcases j with _ | _ | j <;> simp <;> omega) ?_ (hT2.below ((Below.refl _ _).alloc (Nat.le_refl _) _))).mono ?_
  · intro j hj
    refine ⟨⟨w2.heap.size, 0, none⟩, rfl, by simp, ?_⟩
    have e1 : (⟨w2.heap.size, 0, none⟩ : Addr).add j = ⟨w2.heap.size, j, none⟩ := by unfold Addr.add; split <;> simp_all
    rw [e1, World.cell?_alloc_at _ _ _ _ rfl]
    rcases j with _ | _ | j
    · rfl
    · rfl
    · simp at hj; omega
  rintro e w3 ⟨v8, he, ho8, hb3⟩
  rw [HB1.out] at he
  subst he
  have hA3 : Below w2.heap.size w2 w3 := ((Below.refl _ _).alloc (Nat.le_refl _) _).trans (hb3.mono (by simp))
  have ho8 : OwnI w2.heap.size w3 v8 (numsOf [cl, sq]) := ho8.mono (by simp)
  have hT3 := hT2.below hA3
  have hz3 : w.heap.size + 1 ≤ w3.heap.size := Nat.le_trans hz2 hA3.size
  have hW3 := hW2.trans (hA3.mono hz2)
  have H13 := Lib.hid (H12.out.trans (hA3.mono H12.out.size))
  have HO8 := Lib.hid ho8
  clear hT2 hb3 hA3 ho8 H12
  go_wp2_with fail
  refine (parseInts _ 2 _ [p2, p3] _ rfl (by omega) (fun j => by rcases j with _ | _ | j <;> simp <;> omega) ?_ hT3).mono ?_
  · intro j hj
    refine ⟨⟨g, 2, none⟩, rfl, Nat.lt_of_lt_of_le hgl H13.out.size, ?_⟩
    have e1 : (⟨g, 2, none⟩ : Addr).add j = ⟨g, 2 + j, none⟩ := by unfold Addr.add; split <;> simp_all
    rw [e1, H13.out.cell (p := ⟨g, 2 + j, none⟩) hgl]
    rcases j with _ | _ | j
    · exact K2.out
    · exact K3.out
    · simp at hj <;> omega
  rintro e w4 ⟨v10, he, ho10, hb4⟩
  rw [HB2.out] at he
  subst he
  have hW4 := hW3.trans (hb4.mono hz3)
  have hz4 : w.heap.size + 1 ≤ w4.heap.size := Nat.le_trans hz3 hb4.size
  have k1 := (hb4.cell (p := ⟨g, 1, none⟩) (Nat.lt_of_lt_of_le hgl H13.out.size)).trans ((H13.out.cell (p := ⟨g, 1, none⟩) hgl).trans K1.out)
  have ho8 := HO8.out.later hb4
  have hgl4 : g < w4.heap.size := Nat.lt_of_lt_of_le (Nat.lt_of_lt_of_le hgl H13.out.size) hb4.size
  have hn8 : numsOf [cl, sq] = [nc, ns] := by unfold numsOf; rw [HB1.out]; simp [HC.out, HD.out]
  have hn10 : numsOf [p2, p3] = [no, nv] := by unfold numsOf; rw [HB2.out]; simp [E2.out, E3.out]
  rw [hn8] at ho8
  rw [hn10] at ho10
  clear hn8 hn10
  obtain ⟨g8, c8, rfl, hc8, hm8, hl8, q0, q1⟩ := OwnI.two ho8
  obtain ⟨g10, c10, rfl, hc10, hm10, hl10, r0, r1⟩ := OwnI.two ho10
  unfold maxLen at hm8 hm10
  have hMax := hm8
  rw [hw.out] at k1
  clear ho8 ho10
  go_wp2_with fail
  refine (actionWrite g10 c10 no nv _ hc10 r0 r1).mono ?_
  rintro e w5 ⟨rfl, hb5⟩
  have hW5 := hW4.trans (hb5.mono hz4)
  replace q0 := (hb5.cell (p := ⟨g8, 0, none⟩) hl8).trans q0
  replace q1 := (hb5.cell (p := ⟨g8, 1, none⟩) hl8).trans q1
  have hq8 : g8 < w5.heap.size := Nat.lt_of_lt_of_le hl8 hb5.size
  clear r0 r1 k1 hb5 hb4
  obtain ⟨W0, HW0⟩ : ∃ W, Hid (W = w5) := ⟨_, Lib.hid rfl⟩
  have hz5 : W0.heap.size ≤ W0.heap.size := Nat.le_refl _
  have hk : Below W0.heap.size W0 w5 ∧ (∀ b o, b < W0.heap.size → w5.cell? ⟨b, o, none⟩ = W0.cell? ⟨b, o, none⟩) := by rw [← HW0.out]; exact kept_of (Below.refl _ _)
  rw [← HW0.out] at q0 q1 hq8
  have hcc := hk.2
  have hy := Lib.hid hk.1.size
  have hM12 := hMax
  clear hMax
  go_upto_region 12 with (fail)
  go_cut [14] (fun p wx => ∃ b, p = .pointer (some ⟨b, 0, none⟩) ∧ W0.heap.size ≤ b ∧ Below W0.heap.size W0 wx ∧ OpAt wx b nc ns 1 no 0 nv)
  case rest =>
    obtain ⟨b, rfl, hb0, hB, hOp⟩ := hcut
    have hW6 : Below (w.heap.size + 1) WB wc := hW5.trans (by rw [← HW0.out]; exact hB.mono (Nat.le_trans hz (Nat.le_trans hW5.size (by rw [HW0.out]; exact Nat.le_refl _))))
    have hz6 : w.heap.size + 1 ≤ wc.heap.size := Nat.le_trans hz hW6.size
    have hb9 : w.heap.size < b := Nat.lt_of_lt_of_le hz (Nat.le_trans (Nat.le_trans hW5.size (by rw [HW0.out]; exact Nat.le_refl _)) hb0)
    clear hcc hk q0 q1
    have HOp := Lib.hid hOp
    obtain ⟨z0, z1, z2, z3, z4, z5, y0, y1, y2, y3, y4, y5⟩ := hOp
    go_wp2_with fail
    refine (implIsValidOp _ _ _ _ _ _ _).mono ?_
    rintro e w7 ⟨he, hb7⟩
    rw [hok.out] at he
    subst he
    clear z0 z1 z2 z3 z4 z5 y0 y1 y2 y3 y4 y5
    obtain ⟨z0, z1, z2, z3, z4, z5, y0, y1, y2, y3, y4, y5⟩ := OpAt.later HOp.out hb7
    have hW7 := hW6.trans (hb7.mono hz6)
    have hcc := fun b o h => hW7.cell (p := ⟨b, o, none⟩) h
    have hff := fun b o h => hW7.frozen (p := ⟨b, o, none⟩) h
    go_wp2_with fail
    exact bodyPost_ret (v := .tuple #[opV 0 0 0 0 0 0, .bool false]) (by simp [results, Tryz.results7, go_sem, hcc, hWB]) rfl ⟨rfl, (((((((hA.trans (hW7.mono (Nat.le_succ _))).setCell (Nat.le_refl _) _).setCell (Nat.le_refl _) _).setCell (Nat.le_refl _) _).setCell (Nat.le_refl _) _).setCell (Nat.le_refl _) _).setCell (Nat.le_refl _) _)⟩
  case first =>
    rename_i J K2 hJ hM2
    clear hcc
    have hnil : ∀ (a : Value) (w : World), (nilAhead 296 116 a "loop.example/g01926/impl.op").run Tryz.prog w = .ok (some false) w := fun a w => by kernel_rfl
    go_region_held3 (fun w' => Below W0.heap.size W0 w' ∧ (∀ b o, b < W0.heap.size → w'.cell? ⟨b, o, none⟩ = W0.cell? ⟨b, o, none⟩))
      (first | (with_reducible assumption) | ((with_reducible refine kept_drew ?_); with_reducible assumption) | ((with_reducible refine kept_alloc ?_ hz5 _); with_reducible assumption) | ((with_reducible refine kept_drew ?_); (with_reducible refine kept_alloc ?_ hz5 _); with_reducible assumption) | ((with_reducible refine kept_next (w := ?_) ?_ ?_ hz5); rotate_left; with_reducible assumption; with_reducible assumption) | ((with_reducible refine kept_store (x := ?_) ?_ ?_ _); rotate_left; with_reducible assumption; with_reducible assumption) | ((with_reducible refine kept_set ?_ ?_ _ _ _ _ _ _) <;> with_reducible assumption))
      (first | (go_at_call 158; refine (writeOp no nv nc ns _).mono ?_; rintro e w9 ⟨rfl, hb9⟩; have hy := Lib.hid (kept_size (by with_reducible assumption) hb9 hz5); (first | have hq := OpAt.later (show OpAt _ _ 0 0 0 0 0 0 by with_reducible assumption) hb9 | have hq := OpAt.later (OpAt.alloc _) hb9 | have hq := OpAt.later (OpAt.alloc _).drew hb9 | skip); (first | (have hq' := hq; obtain ⟨z0, z1, z2, z3, z4, z5, y0, y1, y2, y3, y4, y5⟩ := hq') | skip)))
    all_goals
      rename_i hS
      clear q0 q1 hk hnil
      have HS := Lib.hid hS
      clear hS
      refine hM2 _ _ ?_
      refine Met.intro ?_
      go_step
      (repeat apply Exists.intro)
      refine ⟨?_, rfl⟩
      refine ⟨_, rfl, Hid.out (by with_reducible assumption), HS.out.1, ?_⟩
      first
        | (with_reducible exact OpAt.alloc _)
        | ((with_reducible refine OpAt.store (c := 0) (s := 0) (k := 0) (o := 0) (d := 0) (v := 0) ?_ _ _ _ _ _ _); with_reducible assumption)
set_option maxRecDepth 100000 in
set_option maxHeartbeats 8000000 in
theorem implParse_swap_true (s : ByteArray) (w : World) (p0 p1 p2 p3 p4 : List UInt8) (hs : s.size ≤ 1048576) (HN : Hid ((wordsL s.data.toList).length = 5)) (G0 : Hid ((wordsL s.data.toList).getD 0 [] = p0)) (g0 : p0.length ≤ s.size) (G1 : Hid ((wordsL s.data.toList).getD 1 [] = p1)) (g1 : p1.length ≤ s.size) (G2 : Hid ((wordsL s.data.toList).getD 2 [] = p2)) (g2 : p2.length ≤ s.size) (G3 : Hid ((wordsL s.data.toList).getD 3 [] = p3)) (g3 : p3.length ≤ s.size) (G4 : Hid ((wordsL s.data.toList).getD 4 [] = p4)) (g4 : p4.length ≤ s.size) (hM : Mx w) (hT : Tab w) (nc ns no nd nv : Int) (HB1 : Hid (allPar [(Lib.cut p0 [46]).1, (Lib.cut p0 [46]).2.1] = true)) (HB2 : Hid (allPar [p2, p3, p4] = true)) (HC : Hid (parN (Lib.cut p0 [46]).1 = nc)) (HD : Hid (parN (Lib.cut p0 [46]).2.1 = ns)) (E2 : Hid (parN p2 = no)) (E3 : Hid (parN p3 = nd)) (E4 : Hid (parN p4 = nv)) (hw : Hid (p1 = wS)) (hok : Hid (okOp nc ns 2 no nd nv = true)) :
    Calls Tryz.prog 7 #[.string s] w fun e w' => e = .returned (.tuple #[opV nc ns 2 no nd nv, .bool true]) ∧ Below w.heap.size w w' := by
  unfold opV
  obtain ⟨WB, hWB⟩ : ∃ W, W = w.alloc (.cells #[.int .i64 0, .int .i64 0, .int .i64 0, .int .i64 0, .int .i64 0, .int .i64 0] 25) := ⟨_, rfl⟩
  have hz : w.heap.size + 1 ≤ WB.heap.size := by rw [hWB]; simp
  have hA : Below w.heap.size w WB := by rw [hWB]; exact (Below.refl _ _).alloc (Nat.le_refl _) _
  have HWB := Lib.hid hWB
  have hMB := Lib.hid (hM.below hA)
  have hTB := Lib.hid (hT.below hA)
  clear hM hT
  go_enter Tryz.func7, Tryz.ntmps7
  go_wp2_with fail
  rw [← HWB.out]
  refine (splitWords s _ hs hMB.out).mono ?_
  rintro e w1 ⟨g, cap, rfl, hn, hm5, hg, hgl, hcell, hb⟩
  rw [HN.out] at hn hcell ⊢
  have k0 := hcell 0 (by omega)
  rw [G0.out] at k0
  have k1 := hcell 1 (by omega)
  rw [G1.out] at k1
  have k2 := hcell 2 (by omega)
  rw [G2.out] at k2
  have k3 := hcell 3 (by omega)
  rw [G3.out] at k3
  have k4 := hcell 4 (by omega)
  rw [G4.out] at k4
  clear hcell
  have K1 := Lib.hid k1
  have K2 := Lib.hid k2
  have K3 := Lib.hid k3
  have K4 := Lib.hid k4
  clear k1 k2 k3 k4
  have hW1 := hb.mono hz
  have hM1 := hMB.out.below hb
  have hT1 := hTB.out.below hb
  have hz1 : w.heap.size + 1 ≤ w1.heap.size := Nat.le_trans hz hb.size
  clear hb
  go_wp2_with fail
  refine (cutDot p0 _ (by omega) hM1).mono ?_
  rintro e w2 ⟨rfl, hb2⟩
  have hc0 := cut_len p0
  generalize (Lib.cut p0 [46]).1 = cl at *
  generalize (Lib.cut p0 [46]).2.1 = sq at *
  generalize (Lib.cut p0 [46]).2.2 = fd at *
  have hT2 := hT1.below hb2
  have hz2 : w.heap.size + 1 ≤ w2.heap.size := Nat.le_trans hz1 hb2.size
  have hW2 := hW1.trans (hb2.mono hz1)
  have H12 := Lib.hid hb2
  clear hM1 hT1 hb2 k0
  go_wp2_with fail
  refine (parseInts _ 2 2 [cl, sq] _ rfl (by omega) (fun j => by rcases j with _ | _ | j <;> simp <;> omega) ?_ (hT2.below ((Below.refl _ _).alloc (Nat.le_refl _) _))).mono ?_
  · intro j hj
    refine ⟨⟨w2.heap.size, 0, none⟩, rfl, by simp, ?_⟩
    have e1 : (⟨w2.heap.size, 0, none⟩ : Addr).add j = ⟨w2.heap.size, j, none⟩ := by unfold Addr.add; split <;> simp_all
    rw [e1, World.cell?_alloc_at _ _ _ _ rfl]
    rcases j with _ | _ | j
    · rfl
    · rfl
    · simp at hj; omega
  rintro e w3 ⟨v8, he, ho8, hb3⟩
  rw [HB1.out] at he
  subst he
  have hA3 : Below w2.heap.size w2 w3 := ((Below.refl _ _).alloc (Nat.le_refl _) _).trans (hb3.mono (by simp))
  have ho8 : OwnI w2.heap.size w3 v8 (numsOf [cl, sq]) := ho8.mono (by simp)
  have hT3 := hT2.below hA3
  have hz3 : w.heap.size + 1 ≤ w3.heap.size := Nat.le_trans hz2 hA3.size
  have hW3 := hW2.trans (hA3.mono hz2)
  have H13 := Lib.hid (H12.out.trans (hA3.mono H12.out.size))
  have HO8 := Lib.hid ho8
  clear hT2 hb3 hA3 ho8 H12
  go_wp2_with fail
  refine (parseInts _ 3 _ [p2, p3, p4] _ rfl (by omega) (fun j => by rcases j with _ | _ | _ | j <;> simp <;> omega) ?_ hT3).mono ?_
  · intro j hj
    refine ⟨⟨g, 2, none⟩, rfl, Nat.lt_of_lt_of_le hgl H13.out.size, ?_⟩
    have e1 : (⟨g, 2, none⟩ : Addr).add j = ⟨g, 2 + j, none⟩ := by unfold Addr.add; split <;> simp_all
    rw [e1, H13.out.cell (p := ⟨g, 2 + j, none⟩) hgl]
    rcases j with _ | _ | _ | j
    · exact K2.out
    · exact K3.out
    · exact K4.out
    · simp at hj <;> omega
  rintro e w4 ⟨v10, he, ho10, hb4⟩
  rw [HB2.out] at he
  subst he
  have hW4 := hW3.trans (hb4.mono hz3)
  have hz4 : w.heap.size + 1 ≤ w4.heap.size := Nat.le_trans hz3 hb4.size
  have k1 := (hb4.cell (p := ⟨g, 1, none⟩) (Nat.lt_of_lt_of_le hgl H13.out.size)).trans ((H13.out.cell (p := ⟨g, 1, none⟩) hgl).trans K1.out)
  have ho8 := HO8.out.later hb4
  have hgl4 : g < w4.heap.size := Nat.lt_of_lt_of_le (Nat.lt_of_lt_of_le hgl H13.out.size) hb4.size
  have hn8 : numsOf [cl, sq] = [nc, ns] := by unfold numsOf; rw [HB1.out]; simp [HC.out, HD.out]
  have hn10 : numsOf [p2, p3, p4] = [no, nd, nv] := by unfold numsOf; rw [HB2.out]; simp [E2.out, E3.out, E4.out]
  rw [hn8] at ho8
  rw [hn10] at ho10
  clear hn8 hn10
  obtain ⟨g8, c8, rfl, hc8, hm8, hl8, q0, q1⟩ := OwnI.two ho8
  obtain ⟨g10, c10, rfl, hc10, hm10, hl10, r0, r1, r2⟩ := OwnI.three ho10
  unfold maxLen at hm8 hm10
  have hMax := hm8
  rw [hw.out] at k1
  clear ho8 ho10
  go_wp2_with fail
  refine (actionSwap g10 c10 no nd nv _ hc10 r0 r1 r2).mono ?_
  rintro e w5 ⟨rfl, hb5⟩
  have hW5 := hW4.trans (hb5.mono hz4)
  replace q0 := (hb5.cell (p := ⟨g8, 0, none⟩) hl8).trans q0
  replace q1 := (hb5.cell (p := ⟨g8, 1, none⟩) hl8).trans q1
  have hq8 : g8 < w5.heap.size := Nat.lt_of_lt_of_le hl8 hb5.size
  clear r0 r1 r2 k1 hb5 hb4
  obtain ⟨W0, HW0⟩ : ∃ W, Hid (W = w5) := ⟨_, Lib.hid rfl⟩
  have hz5 : W0.heap.size ≤ W0.heap.size := Nat.le_refl _
  have hk : Below W0.heap.size W0 w5 ∧ (∀ b o, b < W0.heap.size → w5.cell? ⟨b, o, none⟩ = W0.cell? ⟨b, o, none⟩) := by rw [← HW0.out]; exact kept_of (Below.refl _ _)
  rw [← HW0.out] at q0 q1 hq8
  have hcc := hk.2
  have hy := Lib.hid hk.1.size
  have hM12 := hMax
  clear hMax
  go_upto_region 12 with (fail)
  go_cut [14] (fun p wx => ∃ b, p = .pointer (some ⟨b, 0, none⟩) ∧ W0.heap.size ≤ b ∧ Below W0.heap.size W0 wx ∧ OpAt wx b nc ns 2 no nd nv)
  case rest =>
    obtain ⟨b, rfl, hb0, hB, hOp⟩ := hcut
    have hW6 : Below (w.heap.size + 1) WB wc := hW5.trans (by rw [← HW0.out]; exact hB.mono (Nat.le_trans hz (Nat.le_trans hW5.size (by rw [HW0.out]; exact Nat.le_refl _))))
    have hz6 : w.heap.size + 1 ≤ wc.heap.size := Nat.le_trans hz hW6.size
    have hb9 : w.heap.size < b := Nat.lt_of_lt_of_le hz (Nat.le_trans (Nat.le_trans hW5.size (by rw [HW0.out]; exact Nat.le_refl _)) hb0)
    clear hcc hk q0 q1
    have HOp := Lib.hid hOp
    obtain ⟨z0, z1, z2, z3, z4, z5, y0, y1, y2, y3, y4, y5⟩ := hOp
    go_wp2_with fail
    refine (implIsValidOp _ _ _ _ _ _ _).mono ?_
    rintro e w7 ⟨he, hb7⟩
    rw [hok.out] at he
    subst he
    clear z0 z1 z2 z3 z4 z5 y0 y1 y2 y3 y4 y5
    obtain ⟨z0, z1, z2, z3, z4, z5, y0, y1, y2, y3, y4, y5⟩ := OpAt.later HOp.out hb7
    have hW7 := hW6.trans (hb7.mono hz6)
    have hcc := fun b o h => hW7.cell (p := ⟨b, o, none⟩) h
    have hff := fun b o h => hW7.frozen (p := ⟨b, o, none⟩) h
    go_wp2_with fail
    exact bodyPost_ret (v := .tuple #[opV nc ns 2 no nd nv, .bool true]) (by simp [results, Tryz.results7, go_sem, hcc, hWB]) rfl ⟨rfl, (((((((hA.trans (hW7.mono (Nat.le_succ _))).setCell (Nat.le_refl _) _).setCell (Nat.le_refl _) _).setCell (Nat.le_refl _) _).setCell (Nat.le_refl _) _).setCell (Nat.le_refl _) _).setCell (Nat.le_refl _) _)⟩
  case first =>
    rename_i J K2 hJ hM2
    clear hcc
    have hnil : ∀ (a : Value) (w : World), (nilAhead 296 118 a "loop.example/g01926/impl.op").run Tryz.prog w = .ok (some false) w := fun a w => by kernel_rfl
    go_region_held3 (fun w' => Below W0.heap.size W0 w' ∧ (∀ b o, b < W0.heap.size → w'.cell? ⟨b, o, none⟩ = W0.cell? ⟨b, o, none⟩))
      (first | (with_reducible assumption) | ((with_reducible refine kept_drew ?_); with_reducible assumption) | ((with_reducible refine kept_alloc ?_ hz5 _); with_reducible assumption) | ((with_reducible refine kept_drew ?_); (with_reducible refine kept_alloc ?_ hz5 _); with_reducible assumption) | ((with_reducible refine kept_next (w := ?_) ?_ ?_ hz5); rotate_left; with_reducible assumption; with_reducible assumption) | ((with_reducible refine kept_store (x := ?_) ?_ ?_ _); rotate_left; with_reducible assumption; with_reducible assumption) | ((with_reducible refine kept_set ?_ ?_ _ _ _ _ _ _) <;> with_reducible assumption))
      (first | (go_at_call 162; refine (swapOp no nd nv nc ns _).mono ?_; rintro e w9 ⟨rfl, hb9⟩; have hy := Lib.hid (kept_size (by with_reducible assumption) hb9 hz5); (first | have hq := OpAt.later (show OpAt _ _ 0 0 0 0 0 0 by with_reducible assumption) hb9 | have hq := OpAt.later (OpAt.alloc _) hb9 | have hq := OpAt.later (OpAt.alloc _).drew hb9 | skip); (first | (have hq' := hq; obtain ⟨z0, z1, z2, z3, z4, z5, y0, y1, y2, y3, y4, y5⟩ := hq') | skip)))
    all_goals
      rename_i hS
      clear q0 q1 hk hnil
      have HS := Lib.hid hS
      clear hS
      refine hM2 _ _ ?_
      refine Met.intro ?_
      go_step
      (repeat apply Exists.intro)
      refine ⟨?_, rfl⟩
      refine ⟨_, rfl, Hid.out (by with_reducible assumption), HS.out.1, ?_⟩
      first
        | (with_reducible exact OpAt.alloc _)
        | ((with_reducible refine OpAt.store (c := 0) (s := 0) (k := 0) (o := 0) (d := 0) (v := 0) ?_ _ _ _ _ _ _); with_reducible assumption)
set_option maxRecDepth 100000 in
set_option maxHeartbeats 8000000 in
theorem implParse_swap_false (s : ByteArray) (w : World) (p0 p1 p2 p3 p4 : List UInt8) (hs : s.size ≤ 1048576) (HN : Hid ((wordsL s.data.toList).length = 5)) (G0 : Hid ((wordsL s.data.toList).getD 0 [] = p0)) (g0 : p0.length ≤ s.size) (G1 : Hid ((wordsL s.data.toList).getD 1 [] = p1)) (g1 : p1.length ≤ s.size) (G2 : Hid ((wordsL s.data.toList).getD 2 [] = p2)) (g2 : p2.length ≤ s.size) (G3 : Hid ((wordsL s.data.toList).getD 3 [] = p3)) (g3 : p3.length ≤ s.size) (G4 : Hid ((wordsL s.data.toList).getD 4 [] = p4)) (g4 : p4.length ≤ s.size) (hM : Mx w) (hT : Tab w) (nc ns no nd nv : Int) (HB1 : Hid (allPar [(Lib.cut p0 [46]).1, (Lib.cut p0 [46]).2.1] = true)) (HB2 : Hid (allPar [p2, p3, p4] = true)) (HC : Hid (parN (Lib.cut p0 [46]).1 = nc)) (HD : Hid (parN (Lib.cut p0 [46]).2.1 = ns)) (E2 : Hid (parN p2 = no)) (E3 : Hid (parN p3 = nd)) (E4 : Hid (parN p4 = nv)) (hw : Hid (p1 = wS)) (hok : Hid (okOp nc ns 2 no nd nv = false)) :
    Calls Tryz.prog 7 #[.string s] w fun e w' => e = .returned (.tuple #[opV 0 0 0 0 0 0, .bool false]) ∧ Below w.heap.size w w' := by
  unfold opV
  obtain ⟨WB, hWB⟩ : ∃ W, W = w.alloc (.cells #[.int .i64 0, .int .i64 0, .int .i64 0, .int .i64 0, .int .i64 0, .int .i64 0] 25) := ⟨_, rfl⟩
  have hz : w.heap.size + 1 ≤ WB.heap.size := by rw [hWB]; simp
  have hA : Below w.heap.size w WB := by rw [hWB]; exact (Below.refl _ _).alloc (Nat.le_refl _) _
  have HWB := Lib.hid hWB
  have hMB := Lib.hid (hM.below hA)
  have hTB := Lib.hid (hT.below hA)
  clear hM hT
  go_enter Tryz.func7, Tryz.ntmps7
  go_wp2_with fail
  rw [← HWB.out]
  refine (splitWords s _ hs hMB.out).mono ?_
  rintro e w1 ⟨g, cap, rfl, hn, hm5, hg, hgl, hcell, hb⟩
  rw [HN.out] at hn hcell ⊢
  have k0 := hcell 0 (by omega)
  rw [G0.out] at k0
  have k1 := hcell 1 (by omega)
  rw [G1.out] at k1
  have k2 := hcell 2 (by omega)
  rw [G2.out] at k2
  have k3 := hcell 3 (by omega)
  rw [G3.out] at k3
  have k4 := hcell 4 (by omega)
  rw [G4.out] at k4
  clear hcell
  have K1 := Lib.hid k1
  have K2 := Lib.hid k2
  have K3 := Lib.hid k3
  have K4 := Lib.hid k4
  clear k1 k2 k3 k4
  have hW1 := hb.mono hz
  have hM1 := hMB.out.below hb
  have hT1 := hTB.out.below hb
  have hz1 : w.heap.size + 1 ≤ w1.heap.size := Nat.le_trans hz hb.size
  clear hb
  go_wp2_with fail
  refine (cutDot p0 _ (by omega) hM1).mono ?_
  rintro e w2 ⟨rfl, hb2⟩
  have hc0 := cut_len p0
  generalize (Lib.cut p0 [46]).1 = cl at *
  generalize (Lib.cut p0 [46]).2.1 = sq at *
  generalize (Lib.cut p0 [46]).2.2 = fd at *
  have hT2 := hT1.below hb2
  have hz2 : w.heap.size + 1 ≤ w2.heap.size := Nat.le_trans hz1 hb2.size
  have hW2 := hW1.trans (hb2.mono hz1)
  have H12 := Lib.hid hb2
  clear hM1 hT1 hb2 k0
  go_wp2_with fail
  refine (parseInts _ 2 2 [cl, sq] _ rfl (by omega) (fun j => by rcases j with _ | _ | j <;> simp <;> omega) ?_ (hT2.below ((Below.refl _ _).alloc (Nat.le_refl _) _))).mono ?_
  · intro j hj
    refine ⟨⟨w2.heap.size, 0, none⟩, rfl, by simp, ?_⟩
    have e1 : (⟨w2.heap.size, 0, none⟩ : Addr).add j = ⟨w2.heap.size, j, none⟩ := by unfold Addr.add; split <;> simp_all
    rw [e1, World.cell?_alloc_at _ _ _ _ rfl]
    rcases j with _ | _ | j
    · rfl
    · rfl
    · simp at hj; omega
  rintro e w3 ⟨v8, he, ho8, hb3⟩
  rw [HB1.out] at he
  subst he
  have hA3 : Below w2.heap.size w2 w3 := ((Below.refl _ _).alloc (Nat.le_refl _) _).trans (hb3.mono (by simp))
  have ho8 : OwnI w2.heap.size w3 v8 (numsOf [cl, sq]) := ho8.mono (by simp)
  have hT3 := hT2.below hA3
  have hz3 : w.heap.size + 1 ≤ w3.heap.size := Nat.le_trans hz2 hA3.size
  have hW3 := hW2.trans (hA3.mono hz2)
  have H13 := Lib.hid (H12.out.trans (hA3.mono H12.out.size))
  have HO8 := Lib.hid ho8
  clear hT2 hb3 hA3 ho8 H12
  go_wp2_with fail
  refine (parseInts _ 3 _ [p2, p3, p4] _ rfl (by omega) (fun j => by rcases j with _ | _ | _ | j <;> simp <;> omega) ?_ hT3).mono ?_
  · intro j hj
    refine ⟨⟨g, 2, none⟩, rfl, Nat.lt_of_lt_of_le hgl H13.out.size, ?_⟩
    have e1 : (⟨g, 2, none⟩ : Addr).add j = ⟨g, 2 + j, none⟩ := by unfold Addr.add; split <;> simp_all
    rw [e1, H13.out.cell (p := ⟨g, 2 + j, none⟩) hgl]
    rcases j with _ | _ | _ | j
    · exact K2.out
    · exact K3.out
    · exact K4.out
    · simp at hj <;> omega
  rintro e w4 ⟨v10, he, ho10, hb4⟩
  rw [HB2.out] at he
  subst he
  have hW4 := hW3.trans (hb4.mono hz3)
  have hz4 : w.heap.size + 1 ≤ w4.heap.size := Nat.le_trans hz3 hb4.size
  have k1 := (hb4.cell (p := ⟨g, 1, none⟩) (Nat.lt_of_lt_of_le hgl H13.out.size)).trans ((H13.out.cell (p := ⟨g, 1, none⟩) hgl).trans K1.out)
  have ho8 := HO8.out.later hb4
  have hgl4 : g < w4.heap.size := Nat.lt_of_lt_of_le (Nat.lt_of_lt_of_le hgl H13.out.size) hb4.size
  have hn8 : numsOf [cl, sq] = [nc, ns] := by unfold numsOf; rw [HB1.out]; simp [HC.out, HD.out]
  have hn10 : numsOf [p2, p3, p4] = [no, nd, nv] := by unfold numsOf; rw [HB2.out]; simp [E2.out, E3.out, E4.out]
  rw [hn8] at ho8
  rw [hn10] at ho10
  clear hn8 hn10
  obtain ⟨g8, c8, rfl, hc8, hm8, hl8, q0, q1⟩ := OwnI.two ho8
  obtain ⟨g10, c10, rfl, hc10, hm10, hl10, r0, r1, r2⟩ := OwnI.three ho10
  unfold maxLen at hm8 hm10
  have hMax := hm8
  rw [hw.out] at k1
  clear ho8 ho10
  go_wp2_with fail
  refine (actionSwap g10 c10 no nd nv _ hc10 r0 r1 r2).mono ?_
  rintro e w5 ⟨rfl, hb5⟩
  have hW5 := hW4.trans (hb5.mono hz4)
  replace q0 := (hb5.cell (p := ⟨g8, 0, none⟩) hl8).trans q0
  replace q1 := (hb5.cell (p := ⟨g8, 1, none⟩) hl8).trans q1
  have hq8 : g8 < w5.heap.size := Nat.lt_of_lt_of_le hl8 hb5.size
  clear r0 r1 r2 k1 hb5 hb4
  obtain ⟨W0, HW0⟩ : ∃ W, Hid (W = w5) := ⟨_, Lib.hid rfl⟩
  have hz5 : W0.heap.size ≤ W0.heap.size := Nat.le_refl _
  have hk : Below W0.heap.size W0 w5 ∧ (∀ b o, b < W0.heap.size → w5.cell? ⟨b, o, none⟩ = W0.cell? ⟨b, o, none⟩) := by rw [← HW0.out]; exact kept_of (Below.refl _ _)
  rw [← HW0.out] at q0 q1 hq8
  have hcc := hk.2
  have hy := Lib.hid hk.1.size
  have hM12 := hMax
  clear hMax
  go_upto_region 12 with (fail)
  go_cut [14] (fun p wx => ∃ b, p = .pointer (some ⟨b, 0, none⟩) ∧ W0.heap.size ≤ b ∧ Below W0.heap.size W0 wx ∧ OpAt wx b nc ns 2 no nd nv)
  case rest =>
    obtain ⟨b, rfl, hb0, hB, hOp⟩ := hcut
    have hW6 : Below (w.heap.size + 1) WB wc := hW5.trans (by rw [← HW0.out]; exact hB.mono (Nat.le_trans hz (Nat.le_trans hW5.size (by rw [HW0.out]; exact Nat.le_refl _))))
    have hz6 : w.heap.size + 1 ≤ wc.heap.size := Nat.le_trans hz hW6.size
    have hb9 : w.heap.size < b := Nat.lt_of_lt_of_le hz (Nat.le_trans (Nat.le_trans hW5.size (by rw [HW0.out]; exact Nat.le_refl _)) hb0)
    clear hcc hk q0 q1
    have HOp := Lib.hid hOp
    obtain ⟨z0, z1, z2, z3, z4, z5, y0, y1, y2, y3, y4, y5⟩ := hOp
    go_wp2_with fail
    refine (implIsValidOp _ _ _ _ _ _ _).mono ?_
    rintro e w7 ⟨he, hb7⟩
    rw [hok.out] at he
    subst he
    clear z0 z1 z2 z3 z4 z5 y0 y1 y2 y3 y4 y5
    obtain ⟨z0, z1, z2, z3, z4, z5, y0, y1, y2, y3, y4, y5⟩ := OpAt.later HOp.out hb7
    have hW7 := hW6.trans (hb7.mono hz6)
    have hcc := fun b o h => hW7.cell (p := ⟨b, o, none⟩) h
    have hff := fun b o h => hW7.frozen (p := ⟨b, o, none⟩) h
    go_wp2_with fail
    exact bodyPost_ret (v := .tuple #[opV 0 0 0 0 0 0, .bool false]) (by simp [results, Tryz.results7, go_sem, hcc, hWB]) rfl ⟨rfl, (((((((hA.trans (hW7.mono (Nat.le_succ _))).setCell (Nat.le_refl _) _).setCell (Nat.le_refl _) _).setCell (Nat.le_refl _) _).setCell (Nat.le_refl _) _).setCell (Nat.le_refl _) _).setCell (Nat.le_refl _) _)⟩
  case first =>
    rename_i J K2 hJ hM2
    clear hcc
    have hnil : ∀ (a : Value) (w : World), (nilAhead 296 118 a "loop.example/g01926/impl.op").run Tryz.prog w = .ok (some false) w := fun a w => by kernel_rfl
    go_region_held3 (fun w' => Below W0.heap.size W0 w' ∧ (∀ b o, b < W0.heap.size → w'.cell? ⟨b, o, none⟩ = W0.cell? ⟨b, o, none⟩))
      (first | (with_reducible assumption) | ((with_reducible refine kept_drew ?_); with_reducible assumption) | ((with_reducible refine kept_alloc ?_ hz5 _); with_reducible assumption) | ((with_reducible refine kept_drew ?_); (with_reducible refine kept_alloc ?_ hz5 _); with_reducible assumption) | ((with_reducible refine kept_next (w := ?_) ?_ ?_ hz5); rotate_left; with_reducible assumption; with_reducible assumption) | ((with_reducible refine kept_store (x := ?_) ?_ ?_ _); rotate_left; with_reducible assumption; with_reducible assumption) | ((with_reducible refine kept_set ?_ ?_ _ _ _ _ _ _) <;> with_reducible assumption))
      (first | (go_at_call 162; refine (swapOp no nd nv nc ns _).mono ?_; rintro e w9 ⟨rfl, hb9⟩; have hy := Lib.hid (kept_size (by with_reducible assumption) hb9 hz5); (first | have hq := OpAt.later (show OpAt _ _ 0 0 0 0 0 0 by with_reducible assumption) hb9 | have hq := OpAt.later (OpAt.alloc _) hb9 | have hq := OpAt.later (OpAt.alloc _).drew hb9 | skip); (first | (have hq' := hq; obtain ⟨z0, z1, z2, z3, z4, z5, y0, y1, y2, y3, y4, y5⟩ := hq') | skip)))
    all_goals
      rename_i hS
      clear q0 q1 hk hnil
      have HS := Lib.hid hS
      clear hS
      refine hM2 _ _ ?_
      refine Met.intro ?_
      go_step
      (repeat apply Exists.intro)
      refine ⟨?_, rfl⟩
      refine ⟨_, rfl, Hid.out (by with_reducible assumption), HS.out.1, ?_⟩
      first
        | (with_reducible exact OpAt.alloc _)
        | ((with_reducible refine OpAt.store (c := 0) (s := 0) (k := 0) (o := 0) (d := 0) (v := 0) ?_ _ _ _ _ _ _); with_reducible assumption)
end Go.Proofs.YtgjebjoaemeeoaaGreatDoor.kit
