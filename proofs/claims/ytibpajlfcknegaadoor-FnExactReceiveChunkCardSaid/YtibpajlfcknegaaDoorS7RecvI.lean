/-
  Chapter 7: a chunk is received: what impl's ReceiveChunk returns.
-/
import Derived.Test.YtibpajlfcknegaaDoorS7Store
namespace Go.Proofs.YtibpajlfcknegaaDoor.kit
open Go.ChangeShapes Go.WideShapes Go.ChangeAt Go.RowKit
set_option linter.unusedVariables false
set_option linter.unusedSimpArgs false
set_option maxRecDepth 100000 in
set_option maxHeartbeats 2000000 in
theorem cloneWs (v : Value) (l : List ByteArray) (w : World) (hl : l.length ≤ 4194304) (hs : SrcW w.heap.size w v l) :
    Calls Tryd.prog 41 #[v] w fun e w' => ∃ v', e = .returned v' ∧ OwnW w.heap.size w' v' l ∧ Below w.heap.size w w' := by
  have hs' := hs
  rcases hs with ⟨rfl, rfl⟩ | ⟨x, c, rfl, hlt, hc⟩
  · clear hs'
    have hq := fun (W : World) => Lib.run_eql_slice_nil W 37 _ none 0 0 0 0 Tryd.underlying37
    go_enter Tryd.func41, Tryd.ntmps41
    go_wp2_with fail
    go_ret
    exact ⟨_, rfl, World.ownsRow_nil _ _ _ _, Below.refl _ _⟩
  · have HS := Lib.hid (hs'.below ((Below.refl w.heap.size w).alloc (Nat.le_refl _) (.cells #[] 9)) (Nat.le_refl _))
    have HN := Lib.hid (show OwnW w.heap.size (w.alloc (.cells #[] 9)) (.slice (some ⟨w.heap.size, 0, none⟩) 0 0) [] from World.ownsRow_lit w #[] 0 (Nat.le_refl _) (Nat.zero_le _) rfl)
    clear hs' hc
    have hq := fun (W : World) => Lib.run_eql_slice_nil W 37 _ (some x) l.length c 0 0 Tryd.underlying37
    go_enter Tryd.func41, Tryd.ntmps41
    go_wp2_with (at_builtin; refine wpList_appW rfl _ _ rfl w.heap.size _ [] rfl HN.out w.heap.size _ l rfl HS.out (by simp; omega) (by simp) ?_; intro v' w1 hown' hb1 hg1)
    obtain ⟨y, q, rfl⟩ := hown'.shape
    go_wp2_with fail
    go_ret
    exact ⟨_, rfl, by simpa using hown', ((Below.refl w.heap.size w).alloc (Nat.le_refl _) _).trans hb1⟩
theorem Sen.isSame {w : World} {a0 a1 a2 : Addr} (h : Sen w a0 a1 a2) (n : Int) :
    Calls Tryd.prog 44 #[errV n a0, .iface 146 (.pointer (some a0))] w fun e w' => e = .returned (.bool true) ∧ Below w.heap.size w w' := is_part_same n a0 w
theorem Sen.isOther1 {w : World} {a0 a1 a2 : Addr} (h : Sen w a0 a1 a2) (n : Int) :
    Calls Tryd.prog 44 #[errV n a1, .iface 146 (.pointer (some a0))] w fun e w' => e = .returned (.bool false) ∧ Below w.heap.size w w' := by
  obtain ⟨c0, t0, h0⟩ := h.b0
  obtain ⟨c1, t1, h1⟩ := h.b1
  exact is_part_other n a0 a1 _ _ _ _ w h.n1 h1 h0
theorem Sen.isOther2 {w : World} {a0 a1 a2 : Addr} (h : Sen w a0 a1 a2) (n : Int) :
    Calls Tryd.prog 44 #[errV n a2, .iface 146 (.pointer (some a0))] w fun e w' => e = .returned (.bool false) ∧ Below w.heap.size w w' := by
  obtain ⟨c0, t0, h0⟩ := h.b0
  obtain ⟨c1, t1, h1⟩ := h.b2
  exact is_part_other n a0 a2 _ _ _ _ w h.n2 h1 h0
theorem rd_lenI {s : List UInt8} {i n : Int} {d : List UInt8} (h : Reads s i n d) : d.length ≤ s.length := by
  have := congrArg List.length h.form
  simp at this
  omega
theorem ownMade (w : World) (n : Nat) (hn : n ≤ 40) : OwnW w.heap.size (w.alloc (.cells (madeCells #[.string .empty] n) 9)) (.slice (some ⟨w.heap.size, 0, none⟩) n n) (List.replicate n ByteArray.empty) := by
  have h := World.ownsRow_lit (base := w.heap.size) (e := 9) (size := 1) w (madeCells #[.string .empty] n) n (Nat.le_refl _) (by unfold maxLen; omega) (by rw [size_madeCells]; omega)
  refine OwnW.of (n := n) ?_ rfl |> (fun h => by simpa using h)
  have e : (List.replicate n ByteArray.empty).map Value.string = (madeCells #[.string .empty] n).toList := by
    unfold madeCells
    apply List.ext_getElem (by simp)
    intro i h1 h2
    simp [Nat.mod_one]
  rw [e]; exact h
set_option maxRecDepth 100000 in
set_option maxHeartbeats 8000000 in
theorem implReceiveChunk (b : Nat) (v : Value) (P : List ByteArray) (s : ByteArray) (w : World) (a0 a1 a2 : Addr) (h : P.length ≤ 4194304) (hs : sumW P P.length ≤ 1048576) (o : OwnW b w v P) (hs2 : s.size ≤ 1048576) (hT : Tab w) (hM : Mx w) (hS : Sen w a0 a1 a2) :
    Calls Tryd.prog 19 #[v, .string s] w fun e w' => ∃ u, e = .returned (.tuple #[u, .bool (recOk P s)]) ∧ OwnW w.heap.size w' u (recL P s) ∧ Below w.heap.size w w' := by
  obtain ⟨va, vc, rfl⟩ := o.shape
  have jc := Lib.hid (cloneWs _ P w h (srcW_own o))
  have jr := fun W (hT : Tab W) (hM : Mx W) => implParseChunk s W hs2 hT hM
  unfold rdP at jr
  have HT := Lib.hid hT
  have HM := Lib.hid hM
  have HS := Lib.hid hS
  clear o hs hT hM hS
  rcases readC_cases s.data.toList with ⟨hr, _⟩ | ⟨i, n, d, hrd, hr⟩
  · have HF := Lib.hid (rec_bad (P := P) hr)
    rw [hr] at jr
    have JR := Lib.hid jr
    clear jr hr
    go_enter Tryd.func19, Tryd.ntmps19
    go_wp2_with fail
    refine (jc.out).mono ?_
    rintro e w1 ⟨u, rfl, ho, hb⟩
    obtain ⟨xa, xc, rfl⟩ := ho.shape
    have J := Lib.hid (JR.out w1 (HT.out.below hb) (HM.out.below hb))
    have HO1 := Lib.hid ho
    have HB1 := Lib.hid hb
    clear ho hb jc
    go_wp2_with fail
    refine (J.out).mono ?_
    rintro e w2 ⟨rfl, hb⟩
    have HO := Lib.hid (HO1.out.later hb)
    have HB := Lib.hid (HB1.out.trans (hb.mono HB1.out.size))
    clear hb J HO1 HB1 JR
    have hA := (Below.refl w2.heap.size w2).alloc (Nat.le_refl _) (.cells #[.int .i64 0, .int .i64 0, str []] 69)
    have HO3 := Lib.hid (HO.out.later hA)
    have HB3 := Lib.hid (HB.out.trans (hA.mono HB.out.size))
    clear hA HO HB
    go_wp2_with fail
    refine bodyPost_ret (v := .tuple #[.slice xa P.length xc, .bool false]) (by simp [results, Tryd.results19, go_sem]) rfl ?_
    exact ⟨_, by rw [HF.out.1], by rw [HF.out.2]; exact HO3.out, HB3.out⟩
  · have hk := hrd.1
    have hch := hrd.2
    unfold okK at hk
    obtain ⟨hk1, hk2, hk3, _⟩ := hk
    obtain ⟨i, rfl⟩ := Int.eq_ofNat_of_zero_le hk1
    obtain ⟨n, rfl⟩ := Int.eq_ofNat_of_zero_le (show 0 ≤ n by omega)
    have hin : i < n := by omega
    have hn40 : n ≤ 40 := by omega
    have hdl : d.length ≤ 1048576 := by
      have := rd_lenI hrd
      rw [toL_len] at this
      omega
    rw [hr] at jr
    simp only at jr
    have JR := Lib.hid jr
    have HRD := Lib.hid hr
    have HCH := Lib.hid hch
    clear jr hr hk1 hk2 hk3 hrd hch
    by_cases hP0 : P.length = 0
    · obtain rfl := List.eq_nil_of_length_eq_zero hP0
      have HF := Lib.hid (rec_yes (P := []) HRD.out (.inl rfl))
      clear hP0
      go_enter Tryd.func19, Tryd.ntmps19
      go_wp2_with fail
      refine (jc.out).mono ?_
      rintro e w1 ⟨u, rfl, ho, hb⟩
      obtain ⟨xa, xc, rfl⟩ := ho.shape
      have J := Lib.hid (JR.out w1 (HT.out.below hb) (HM.out.below hb))
      have HO1 := Lib.hid ho
      have HB1 := Lib.hid hb
      clear ho hb jc
      go_wp2_with fail
      refine (J.out).mono ?_
      rintro e w2 ⟨rfl, hb⟩
      have HO := Lib.hid (HO1.out.later hb)
      have HB := Lib.hid (HB1.out.trans (hb.mono HB1.out.size))
      clear hb J HO1 HB1 JR
      have hA := (Below.refl w2.heap.size w2).alloc (Nat.le_refl _) (.cells #[.int .i64 (i : Int), .int .i64 (n : Int), str d] 69)
      have HO3 := Lib.hid (HO.out.later hA)
      have HB3 := Lib.hid (HB.out.trans (hA.mono HB.out.size))
      have HS3 := Lib.hid (HS.out.below HB3.out)
      have HR3 := Lib.hid (BoxC.new w2 69 #[.int .i64 (i : Int), .int .i64 (n : Int), str d])
      clear hA HO HB
      have J3 := Lib.hid (store_none xa xc i (n : Int) ⟨d.toArray⟩ _ a0 a1 a2 HS3.out)
      go_wp2_with fail
      refine (J3.out).mono ?_
      rintro e w3 ⟨rfl, hb⟩
      have HR4 := Lib.hid (HR3.out.later hb)
      have HB4 := Lib.hid (HB3.out.trans (hb.mono HB3.out.size))
      have HS4 := Lib.hid (HS3.out.below hb)
      clear hb J3 HO3 HB3 HS3 HR3
      have y0 := HS4.out.v0
      have J4 := Lib.hid (HS4.out.isSame i)
      go_wp2_with fail
      refine (J4.out).mono ?_
      rintro e w4 ⟨rfl, hb⟩
      have HR5 := Lib.hid (HR4.out.later hb)
      have HB5 := Lib.hid (HB4.out.trans (hb.mono HB4.out.size))
      clear hb J4 HB4 HS4 HR4 y0
      have r1 := HR5.out.c 1 rfl
      have hmk : ∀ W : World, (Instr.makeSlice 67 (.int .i64 (n : Int)) (.int .i64 (n : Int))).run Tryd.prog W = .ok (.slice (some ⟨W.heap.size, 0, none⟩) n n) (W.alloc (.cells (madeCells #[.string .empty] n) 9)) := fun W =>
        run_make_row' 67 9 (.string .empty) 16 Tryd.underlying67 infoW rfl .i64 .i64 n (by omega) (by omega) W
      have hA := (Below.refl w4.heap.size w4).alloc (Nat.le_refl _) (.cells (madeCells #[.string .empty] n) 9)
      have HB6 := Lib.hid (HB5.out.trans (hA.mono HB5.out.size))
      have HR6 := Lib.hid (HR5.out.later hA)
      have q0 := HR6.out.c 0 rfl
      have q1 := HR6.out.c 1 rfl
      have q2 := HR6.out.c 2 rfl
      obtain ⟨Q, hQ⟩ : ∃ Q, Q = List.replicate n ByteArray.empty := ⟨_, rfl⟩
      have hQl : Q.length = n := by rw [hQ]; simp
      have hOM : OwnW w4.heap.size (w4.alloc (.cells (madeCells #[.string .empty] n) 9)) (.slice (some ⟨w4.heap.size, 0, none⟩) Q.length n) Q := by
        rw [hQl, hQ]; exact ownMade w4 n hn40
      have hQe : (Q.getD i ByteArray.empty).toList.isEmpty = true := by
        rw [hQ]
        have : (List.replicate n ByteArray.empty).getD i ByteArray.empty = ByteArray.empty := by simp [List.getD, hin]
        rw [this]; simp [ByteArray.toList, ByteArray.toList.loop]
      have jy := store_yes w4.heap.size w4.heap.size n i Q ⟨d.toArray⟩ s _ a0 a1 a2 (HS.out.below HB6.out) (HT.out.below HB6.out) hA.size hOM (by omega) (by omega) hQe (by simp [ByteArray.size]; omega) (by rw [hQl]; simpa using HCH.out)
      rw [hQl] at jy
      have JY := Lib.hid jy
      have HQ := Lib.hid hQ
      have hz5 := HB5.out.size
      clear jy hOM hQe hQ hQl hA HR5 HR6
      go_wp2_with fail
      refine (JY.out).mono ?_
      rintro e w6 ⟨rfl, ho, hb⟩
      have HO7 := Lib.hid (ho.mono hz5)
      have HB7 := Lib.hid (HB6.out.trans (hb.mono hz5))
      clear ho hb JY r1 hmk q0 q1 q2
      go_wp2_with fail
      go_region
      go_wp2_with fail
      refine bodyPost_ret (v := .tuple #[.slice (some ⟨w4.heap.size, 0, none⟩) n n, .bool true]) (by simp [results, Tryd.results19, go_sem]) rfl ?_
      have e2 : recL [] s = Q.set i s := by rw [HF.out.2, HQ.out]; simp
      exact ⟨_, by rw [HF.out.1], by rw [e2]; exact HO7.out.later ((Below.refl _ _).drew), HB7.out.trans ((Below.refl _ _).drew.mono HB7.out.size)⟩
    · by_cases hPn : (P.length : Int) = (n : Int)
      · obtain rfl : n = P.length := by omega
        have hi' : i < P.length := hin
        cases ht : (P.getD i ByteArray.empty).toList.isEmpty with
        | false =>
          have HF := Lib.hid (rec_taken (P := P) HRD.out (Nat.pos_of_ne_zero hP0) ht)
          go_enter Tryd.func19, Tryd.ntmps19
          go_wp2_with fail
          refine (jc.out).mono ?_
          rintro e w1 ⟨u, rfl, ho, hb⟩
          obtain ⟨xa, xc, rfl⟩ := ho.shape
          have J := Lib.hid (JR.out w1 (HT.out.below hb) (HM.out.below hb))
          have HO1 := Lib.hid ho
          have HB1 := Lib.hid hb
          clear ho hb jc
          go_wp2_with fail
          refine (J.out).mono ?_
          rintro e w2 ⟨rfl, hb⟩
          have HO := Lib.hid (HO1.out.later hb)
          have HB := Lib.hid (HB1.out.trans (hb.mono HB1.out.size))
          clear hb J HO1 HB1 JR
          obtain ⟨g, c, hv, _⟩ := HO.out.there (Nat.pos_of_ne_zero hP0)
          injection hv with hv1 hv2 hv3
          subst hv1 hv3
          clear hv2 hP0 hPn
          obtain ⟨n, hn⟩ : ∃ n, n = P.length := ⟨_, rfl⟩
          rw [← hn]
          have hA := (Below.refl w2.heap.size w2).alloc (Nat.le_refl _) (.cells #[.int .i64 (i : Int), .int .i64 (n : Int), str d] 69)
          have HO3 := Lib.hid (HO.out.later hA)
          have HB3 := Lib.hid (HB.out.trans (hA.mono HB.out.size))
          have HS3 := Lib.hid (HS.out.below HB3.out)
          have HR3 := Lib.hid (BoxC.new w2 69 #[.int .i64 (i : Int), .int .i64 (n : Int), str d])
          clear hA HO HB
          have J3 := Lib.hid (store_taken w.heap.size g xc i P ⟨d.toArray⟩ _ a0 a1 a2 HS3.out HO3.out hi' ht)
          rw [← hn] at J3
          have HNN := Lib.hid hn
          clear ht hi' hin hn
          go_wp2_with fail
          refine (J3.out).mono ?_
          rintro e w3 ⟨rfl, hb⟩
          have HO4 := Lib.hid (HO3.out.later hb)
          have HB4 := Lib.hid (HB3.out.trans (hb.mono HB3.out.size))
          have HS4 := Lib.hid (HS3.out.below hb)
          clear hb J3 HO3 HB3 HS3 HR3
          have y0 := HS4.out.v0
          have J4 := Lib.hid (HS4.out.isOther2 i)
          go_wp2_with fail
          refine (J4.out).mono ?_
          rintro e w4 ⟨rfl, hb⟩
          have HO5 := Lib.hid (HO4.out.later hb)
          have HB5 := Lib.hid (HB4.out.trans (hb.mono HB4.out.size))
          clear hb J4 HO4 HB4 HS4 y0
          go_wp2_with fail
          go_region
          go_wp2_with fail
          refine bodyPost_ret (v := .tuple #[.slice (some ⟨g, 0, none⟩) n xc, .bool false]) (by simp [results, Tryd.results19, go_sem]) rfl ?_
          exact ⟨_, by rw [HF.out.1], by rw [HF.out.2, HNN.out]; exact HO5.out.later ((Below.refl _ _).drew), HB5.out.trans ((Below.refl _ _).drew.mono HB5.out.size)⟩
        | true =>
          have HF := Lib.hid (rec_yes (P := P) HRD.out (.inr ⟨rfl, ht⟩))
          go_enter Tryd.func19, Tryd.ntmps19
          go_wp2_with fail
          refine (jc.out).mono ?_
          rintro e w1 ⟨u, rfl, ho, hb⟩
          obtain ⟨xa, xc, rfl⟩ := ho.shape
          have J := Lib.hid (JR.out w1 (HT.out.below hb) (HM.out.below hb))
          have HO1 := Lib.hid ho
          have HB1 := Lib.hid hb
          clear ho hb jc
          go_wp2_with fail
          refine (J.out).mono ?_
          rintro e w2 ⟨rfl, hb⟩
          have HO := Lib.hid (HO1.out.later hb)
          have HB := Lib.hid (HB1.out.trans (hb.mono HB1.out.size))
          clear hb J HO1 HB1 JR
          obtain ⟨g, c, hv, _⟩ := HO.out.there (Nat.pos_of_ne_zero hP0)
          injection hv with hv1 hv2 hv3
          subst hv1 hv3
          clear hv2 hP0 hPn
          obtain ⟨n, hn⟩ : ∃ n, n = P.length := ⟨_, rfl⟩
          rw [← hn]
          have hA := (Below.refl w2.heap.size w2).alloc (Nat.le_refl _) (.cells #[.int .i64 (i : Int), .int .i64 (n : Int), str d] 69)
          have HO3 := Lib.hid (HO.out.later hA)
          have HB3 := Lib.hid (HB.out.trans (hA.mono HB.out.size))
          have HS3 := Lib.hid (HS.out.below HB3.out)
          have HR3 := Lib.hid (BoxC.new w2 69 #[.int .i64 (i : Int), .int .i64 (n : Int), str d])
          clear hA HO HB
          have hz3 := HB3.out.size
          have J3 := Lib.hid (store_yes w.heap.size g xc i P ⟨d.toArray⟩ s _ a0 a1 a2 HS3.out (HT.out.below HB3.out) hz3 HO3.out hi' (by omega) ht (by simp [ByteArray.size]; omega) (by simpa using HCH.out))
          rw [← hn] at J3
          have HNN := Lib.hid hn
          have hsl : (P.set i s).length = n := by simp [hn]
          clear ht hi' hin hn hz3
          go_wp2_with fail
          refine (J3.out).mono ?_
          rintro e w3 ⟨rfl, ho, hb⟩
          have HO4 := Lib.hid ho
          have HB4 := Lib.hid (HB3.out.trans hb)
          have HS4 := Lib.hid (HS.out.below HB4.out)
          clear hb ho J3 HO3 HB3 HS3 HR3
          have y0 := HS4.out.v0
          have J4 := Lib.hid (is_nil a0 w3)
          go_wp2_with fail
          refine (J4.out).mono ?_
          rintro e w4 ⟨rfl, rfl⟩
          clear J4 HS4 y0
          go_wp2_with fail
          go_region
          go_wp2_with fail
          refine bodyPost_ret (v := .tuple #[.slice (some ⟨g, 0, none⟩) n xc, .bool true]) (by simp [results, Tryd.results19, go_sem]) rfl ?_
          have e2 : recL P s = P.set i s := by rw [HF.out.2]; simp
          exact ⟨_, by rw [HF.out.1], by rw [e2]; exact HO4.out.later ((Below.refl _ _).drew), HB4.out.trans ((Below.refl _ _).drew.mono HB4.out.size)⟩
      · have HF := Lib.hid (rec_other (P := P) HRD.out (Nat.pos_of_ne_zero hP0) hPn)
        have hP0' := Nat.pos_of_ne_zero hP0
        clear hP0
        go_enter Tryd.func19, Tryd.ntmps19
        go_wp2_with fail
        refine (jc.out).mono ?_
        rintro e w1 ⟨u, rfl, ho, hb⟩
        obtain ⟨xa, xc, rfl⟩ := ho.shape
        have J := Lib.hid (JR.out w1 (HT.out.below hb) (HM.out.below hb))
        have HO1 := Lib.hid ho
        have HB1 := Lib.hid hb
        clear ho hb jc
        go_wp2_with fail
        refine (J.out).mono ?_
        rintro e w2 ⟨rfl, hb⟩
        have HO := Lib.hid (HO1.out.later hb)
        have HB := Lib.hid (HB1.out.trans (hb.mono HB1.out.size))
        clear hb J HO1 HB1 JR
        have hA := (Below.refl w2.heap.size w2).alloc (Nat.le_refl _) (.cells #[.int .i64 (i : Int), .int .i64 (n : Int), str d] 69)
        have HO3 := Lib.hid (HO.out.later hA)
        have HB3 := Lib.hid (HB.out.trans (hA.mono HB.out.size))
        have HS3 := Lib.hid (HS.out.below HB3.out)
        have HR3 := Lib.hid (BoxC.new w2 69 #[.int .i64 (i : Int), .int .i64 (n : Int), str d])
        clear hA HO HB
        have J3 := Lib.hid (store_other xa P.length xc i (n : Int) ⟨d.toArray⟩ _ a0 a1 a2 HS3.out hP0' hPn)
        clear hP0' hPn
        go_wp2_with fail
        refine (J3.out).mono ?_
        rintro e w3 ⟨rfl, hb⟩
        have HO4 := Lib.hid (HO3.out.later hb)
        have HB4 := Lib.hid (HB3.out.trans (hb.mono HB3.out.size))
        have HS4 := Lib.hid (HS3.out.below hb)
        clear hb J3 HO3 HB3 HS3 HR3
        have y0 := HS4.out.v0
        have J4 := Lib.hid (HS4.out.isOther1 i)
        go_wp2_with fail
        refine (J4.out).mono ?_
        rintro e w4 ⟨rfl, hb⟩
        have HO5 := Lib.hid (HO4.out.later hb)
        have HB5 := Lib.hid (HB4.out.trans (hb.mono HB4.out.size))
        clear hb J4 HO4 HB4 HS4 y0
        go_wp2_with fail
        go_region
        go_wp2_with fail
        refine bodyPost_ret (v := .tuple #[.slice xa P.length xc, .bool false]) (by simp [results, Tryd.results19, go_sem]) rfl ?_
        exact ⟨_, by rw [HF.out.1], by rw [HF.out.2]; exact HO5.out.later ((Below.refl _ _).drew), HB5.out.trans ((Below.refl _ _).drew.mono HB5.out.size)⟩
end Go.Proofs.YtibpajlfcknegaaDoor.kit
