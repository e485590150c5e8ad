/-
  Chapter 7: a chunk is received: what spec's ReceiveChunk returns.
-/
import Derived.Test.YtibpajlfcknegaaDoorS7Read
import Derived.Test.YtibpajlfcknegaaDoorTxts
import Derived.Test.YtibpajlfcknegaaDoorS7Miss
namespace Go.Proofs.YtibpajlfcknegaaDoor.kit
open Go.ChangeShapes Go.WideShapes Go.ChangeAt Go.RowKit
set_option linter.unusedVariables false
set_option linter.unusedSimpArgs false

/-- whether a place takes the chunk -/
noncomputable def recOk (P : List ByteArray) (s : ByteArray) : Bool :=
  (readC s.data.toList).2.2.2 && (decide (P.length = 0) || (decide ((P.length : Int) = (readC s.data.toList).2.1) && (P.getD (readC s.data.toList).1.toNat .empty).toList.isEmpty))
/-- the places behind it -/
noncomputable def recL (P : List ByteArray) (s : ByteArray) : List ByteArray :=
  if recOk P s = true then (P ++ List.replicate ((readC s.data.toList).2.1.toNat - P.length) ByteArray.empty).set (readC s.data.toList).1.toNat s else P
theorem rec_no {P : List ByteArray} {s : ByteArray} (h : recOk P s = false) : recL P s = P := by unfold recL; rw [h]; rfl
theorem rec_bad {P : List ByteArray} {s : ByteArray} (h : readC s.data.toList = (0, 0, [], false)) : recOk P s = false ∧ recL P s = P := by
  have e : recOk P s = false := by unfold recOk; rw [h]; rfl
  exact ⟨e, rec_no e⟩
theorem rec_other {P : List ByteArray} {s : ByteArray} {i n : Int} {d : List UInt8} (h : readC s.data.toList = (i, n, d, true)) (h0 : 0 < P.length) (hn : (P.length : Int) ≠ n) : recOk P s = false ∧ recL P s = P := by
  have e : recOk P s = false := by
    unfold recOk; rw [h]
    simp only [Bool.true_and]
    rw [decide_eq_false (show ¬ P.length = 0 by omega), decide_eq_false hn]; rfl
  exact ⟨e, rec_no e⟩
theorem rec_taken {P : List ByteArray} {s : ByteArray} {i n : Int} {d : List UInt8} (h : readC s.data.toList = (i, n, d, true)) (h0 : 0 < P.length) (ht : (P.getD i.toNat .empty).toList.isEmpty = false) : recOk P s = false ∧ recL P s = P := by
  have e : recOk P s = false := by
    unfold recOk; rw [h]
    simp only [Bool.true_and]
    rw [decide_eq_false (show ¬ P.length = 0 by omega), ht, Bool.and_false]; rfl
  exact ⟨e, rec_no e⟩
theorem rec_yes {P : List ByteArray} {s : ByteArray} {i n : Int} {d : List UInt8} (h : readC s.data.toList = (i, n, d, true)) (hn : P.length = 0 ∨ ((P.length : Int) = n ∧ (P.getD i.toNat .empty).toList.isEmpty = true)) :
    recOk P s = true ∧ recL P s = (P ++ List.replicate (n.toNat - P.length) ByteArray.empty).set i.toNat s := by
  have e : recOk P s = true := by
    unfold recOk; rw [h]
    simp only [Bool.true_and]
    rcases hn with h0 | ⟨h1, h2⟩
    · rw [decide_eq_true h0]; rfl
    · rw [decide_eq_true h1, h2]; simp
  exact ⟨e, by unfold recL; rw [if_pos e, h]⟩
theorem OwnW.storedAt {b g cap : Nat} {w : World} {L : List ByteArray} (h : OwnW b w (.slice (some ⟨g, 0, none⟩) L.length cap) L) (n : Nat) (x : ByteArray) :
    OwnW b (w.setCell ⟨g, n, none⟩ (.string x)) (.slice (some ⟨g, 0, none⟩) L.length cap) (L.set n x) := by
  have h2 := h.row.stored n (.string x)
  refine OwnW.of (n := L.length) h2.1 ?_
  rw [List.map_set]
theorem cellW {b ga n c : Nat} {w : World} {l : List ByteArray} (h : OwnW b w (.slice (some ⟨ga, 0, none⟩) n c) l) (j : Nat) (hj : j < l.length) : w.cell? ⟨ga, j, none⟩ = some (.string (l.getD j .empty)) := by
  rcases h.2 with ⟨hv, _⟩ | ⟨q, cap, cur, hv, hg, hh, _⟩
  · cases hv
  · cases hv
    have := h.row.cellAt j (by omega)
    rw [this]
    simp [List.getD, hj]
theorem srcW_own {b : Nat} {w : World} {v : Value} {l : List ByteArray} (h : OwnW b w v l) : SrcW w.heap.size w v l := by
  rcases h.2 with ⟨rfl, h0⟩ | ⟨g, c, cur, rfl, hg, hh, hn, hm, hr⟩
  · exact .inl ⟨rfl, List.eq_nil_of_length_eq_zero h0⟩
  · refine SrcW.row (Array.getElem?_eq_some_iff.1 hh).1 rfl (fun j hj => ?_)
    exact cellW h j hj
def lenOfW : Value → Nat
  | .slice _ n _ => n
  | _ => 0
theorem isE_nil (z : ByteArray) : (z.toList != []) = !z.toList.isEmpty := by cases z.toList <;> rfl
theorem padW (P : List ByteArray) (k : Nat) : P ++ List.replicate (k + 1) (ByteArray.empty) = (P ++ List.replicate k ByteArray.empty) ++ [ByteArray.empty] := by
  rw [List.append_assoc, ← List.replicate_succ']
set_option maxRecDepth 100000 in
set_option maxHeartbeats 8000000 in
theorem specReceiveChunk (b : Nat) (v : Value) (P : List ByteArray) (s : ByteArray) (w : World) (h : P.length ≤ 4194304) (hs : sumW P P.length ≤ 1048576) (o : OwnW b w v P) (hs2 : s.size ≤ 1048576) :
    Calls Tryd.prog 17 #[v, .string s] w fun e w' => ∃ u, e = .returned (.tuple #[u, .bool (recOk P s)]) ∧ OwnW w.heap.size w' u (recL P s) ∧ Below w.heap.size w w' := by
  obtain ⟨va, vc, rfl⟩ := o.shape
  have jr := specRead s w hs2
  have HS := Lib.hid (srcW_own o)
  clear o hs
  rcases readC_cases s.data.toList with ⟨hr, _⟩ | ⟨i, n, d, hrd, hr⟩
  · have HF := Lib.hid (rec_bad (P := P) hr)
    unfold rdT at jr
    rw [hr] at jr
    have JR := Lib.hid jr
    clear jr hr
    go_enter Tryd.func17, Tryd.ntmps17
    go_wp2_with fail
    refine (JR.out).mono ?_
    rintro e w1 ⟨rfl, hb⟩
    have hbA := (Below.refl w1.heap.size w1).alloc (Nat.le_refl _) (.cells #[] 9)
    have HN := Lib.hid (show OwnW w1.heap.size (w1.alloc (.cells #[] 9)) (.slice (some ⟨w1.heap.size, 0, none⟩) 0 0) [] from World.ownsRow_lit w1 #[] 0 (Nat.le_refl _) (Nat.zero_le _) rfl)
    have HS1 := Lib.hid ((HS.out.below hb (Nat.le_refl _)).below (hbA.mono hb.size) (Nat.le_refl _))
    have hz := hb.size
    have HB := Lib.hid (hb.trans (hbA.mono hb.size))
    clear hb hbA JR HS
    go_wp2_with (at_builtin; refine wpList_appW rfl _ _ rfl w1.heap.size _ [] rfl HN.out w.heap.size _ P rfl HS1.out (by simp; omega) (by simp) ?_; intro v' w2 ho2 hb2 hg2; (have ho2' : OwnW w1.heap.size w2 v' P := by simpa using ho2); obtain ⟨xa, xc, rfl⟩ := ho2'.shape; (have HO := Lib.hid (ho2'.mono hz)); (replace HB := Lib.hid (HB.out.trans (hb2.mono hz))); clear ho2 ho2' hb2 hg2 HN HS1)
    refine bodyPost_ret (v := .tuple #[.slice xa P.length xc, .bool false]) (by simp [results, Tryd.results17, go_sem]) rfl ?_
    exact ⟨_, by rw [HF.out.1], by rw [HF.out.2]; exact HO.out, HB.out⟩
  · have hk := hrd.1
    unfold okK at hk
    obtain ⟨hk1, hk2, hk3, _⟩ := hk
    obtain ⟨i, rfl⟩ := Int.eq_ofNat_of_zero_le hk1
    obtain ⟨n, rfl⟩ := Int.eq_ofNat_of_zero_le (show 0 ≤ n by omega)
    have hin : i < n := by omega
    have hn40 : n ≤ 40 := by omega
    unfold rdT at jr
    rw [hr] at jr
    simp only at jr
    have JR := Lib.hid jr
    have HRD := Lib.hid hr
    clear jr hr hk1 hk2 hk3 hrd
    by_cases hbad : 0 < P.length ∧ (P.length : Int) ≠ (n : Int)
    · have HF := Lib.hid (rec_other (P := P) HRD.out hbad.1 hbad.2)
      have g1 : decide ((P.length : Int) > 0) = true := decide_eq_true (by omega)
      have g2 : ((P.length : Int) != (n : Int)) = true := by rw [bne_iff_ne]; exact hbad.2
      have g3 : decide (0 < P.length) = true := decide_eq_true hbad.1
      clear hbad
      go_enter Tryd.func17, Tryd.ntmps17
      go_wp2_with fail
      refine (JR.out).mono ?_
      rintro e w1 ⟨rfl, hb⟩
      have hbA := (Below.refl w1.heap.size w1).alloc (Nat.le_refl _) (.cells #[] 9)
      have HN := Lib.hid (show OwnW w1.heap.size (w1.alloc (.cells #[] 9)) (.slice (some ⟨w1.heap.size, 0, none⟩) 0 0) [] from World.ownsRow_lit w1 #[] 0 (Nat.le_refl _) (Nat.zero_le _) rfl)
      have HS1 := Lib.hid ((HS.out.below hb (Nat.le_refl _)).below (hbA.mono hb.size) (Nat.le_refl _))
      have hz := hb.size
      have HB := Lib.hid (hb.trans (hbA.mono hb.size))
      clear hb hbA JR HS
      go_wp2_with (at_builtin; refine wpList_appW rfl _ _ rfl w1.heap.size _ [] rfl HN.out w.heap.size _ P rfl HS1.out (by simp; omega) (by simp) ?_; intro v' w2 ho2 hb2 hg2; (have ho2' : OwnW w1.heap.size w2 v' P := by simpa using ho2); obtain ⟨xa, xc, rfl⟩ := ho2'.shape; (have HO := Lib.hid (ho2'.mono hz)); (replace HB := Lib.hid (HB.out.trans (hb2.mono hz))); clear ho2 ho2' hb2 hg2 HN HS1)
      refine bodyPost_ret (v := .tuple #[.slice xa P.length xc, .bool false]) (by simp [results, Tryd.results17, go_sem]) rfl ?_
      exact ⟨_, by rw [HF.out.1], by rw [HF.out.2]; exact HO.out, HB.out⟩
    · have hP : P.length = 0 ∨ P.length = n := by omega
      have g0 : (decide ((P.length : Int) > 0) = false ∧ decide (0 < P.length) = false) ∨ (decide ((P.length : Int) > 0) = true ∧ decide (0 < P.length) = true ∧ ((P.length : Int) != (n : Int)) = false) := by
        rcases hP with h0 | h1
        · exact .inl ⟨decide_eq_false (by omega), decide_eq_false (by omega)⟩
        · by_cases h0 : P.length = 0
          · exact .inl ⟨decide_eq_false (by omega), decide_eq_false (by omega)⟩
          · exact .inr ⟨decide_eq_true (by omega), decide_eq_true (by omega), by rw [h1]; simp⟩
      have HP := Lib.hid hP
      clear hP hbad
      go_enter Tryd.func17, Tryd.ntmps17
      rcases g0 with ⟨g1, g2⟩ | ⟨g1, g2, g3⟩
      · skip
        go_wp2_with fail
        refine (JR.out).mono ?_
        rintro e w1 ⟨rfl, hb⟩
        have hbA := (Below.refl w1.heap.size w1).alloc (Nat.le_refl _) (.cells #[] 9)
        have HN := Lib.hid (show OwnW w1.heap.size (w1.alloc (.cells #[] 9)) (.slice (some ⟨w1.heap.size, 0, none⟩) 0 0) [] from World.ownsRow_lit w1 #[] 0 (Nat.le_refl _) (Nat.zero_le _) rfl)
        have HS1 := Lib.hid ((HS.out.below hb (Nat.le_refl _)).below (hbA.mono hb.size) (Nat.le_refl _))
        have hz := hb.size
        have HB := Lib.hid (hb.trans (hbA.mono hb.size))
        clear hb hbA JR HS
        go_wp2_with (at_builtin; refine wpList_appW rfl _ _ rfl w1.heap.size _ [] rfl HN.out w.heap.size _ P rfl HS1.out (by simp; omega) (by simp) ?_; intro v' w2 ho2 hb2 hg2; (have ho2' : OwnW w1.heap.size w2 v' P := by simpa using ho2); obtain ⟨xa, xc, rfl⟩ := ho2'.shape; (have HO := Lib.hid (ho2'.mono hz)); (replace HB := Lib.hid (HB.out.trans (hb2.mono hz))); clear ho2 ho2' hb2 hg2 HN HS1)
        go_loopw [10] (fun u wr => ∃ k, P.length + k ≤ n ∧ Hid (OwnW w.heap.size wr u (P ++ List.replicate k ByteArray.empty)) ∧ Hid (Below w.heap.size w wr)) (fun u _ => n - lenOfW u)
        case atStart => exact ⟨0, by rcases HP.out with h | h <;> omega, Lib.hid (by simpa using HO.out), HB⟩
        case round =>
          clear HO HB
          obtain ⟨k, hk, HO, HB⟩ := hrel
          have hlen : (P ++ List.replicate k ByteArray.empty).length = P.length + k := by simp
          have hpad := padW P k
          obtain ⟨X, hX⟩ : ∃ X, X = P ++ List.replicate k ByteArray.empty := ⟨_, rfl⟩
          rw [← hX] at HO hlen hpad
          have HX := Lib.hid hX
          obtain ⟨ya, yc, rfl⟩ := HO.out.shape
          by_cases hlt : P.length + k < n
          · have hlt' : X.length < n := by omega
            have HPD := Lib.hid hpad
            have hz0 := HB.out.size
            have hlX : X.length ≤ 40 := by omega
            clear hX hpad hlen
            go_wp2_with (at_builtin; refine wpList_push1 rfl _ _ 37 rfl w.heap.size 9 (.string .empty) 16 Tryd.underlying37 infoW rfl _ _ _ rfl HO.out.row _ 1 rfl (by rfl) (by omega) (by omega) hz0 ?_; intro v' w9 hown' hb9 hg9)
            go_roundw
            case rel => exact ⟨k + 1, by omega, Lib.hid (by rw [HPD.out]; exact OwnW.snoc hown'), Lib.hid (HB.out.trans hb9)⟩
            case measure =>
              obtain ⟨va', vc', hv'⟩ := (OwnW.snoc hown').shape
              rw [hv']
              simp [lenOfW]; omega
          · have hXn : X.length = n := by omega
            have hge : ¬ X.length < n := by omega
            have hkk : k = n - P.length := by omega
            obtain ⟨g, c, hv, hgc, hgm, hgw, hgl⟩ := HO.out.there (by omega)
            injection hv with hv1 hv2 hv3
            subst hv1 hv3
            have hc := cellW HO.out i (by omega)
            have hiX : i < X.length := by omega
            have hiX' : (i : Int) < (X.length : Int) := by omega
            have hfz := HO.out.row.frozenAt i
            have hget : X.getD i .empty = P.getD i .empty := by
              rw [HX.out]
              rcases HP.out with h0 | h1
              · have := List.eq_nil_of_length_eq_zero h0
                subst this
                simp [List.getD]
                by_cases h : i < k <;> simp [h]
              · have : k = 0 := by omega
                subst this
                simp
            rw [hget] at hc
            cases ht : (P.getD i .empty).toList.isEmpty with
            | false =>
              have h0 : 0 < P.length := by
                rcases Nat.eq_zero_or_pos P.length with h | h
                · have := List.eq_nil_of_length_eq_zero h
                  subst this
                  simp at ht
                · exact h
              have HF := Lib.hid (rec_taken (P := P) HRD.out h0 (by simpa using ht))
              have hX0 : k = 0 := by rcases HP.out with h | h <;> omega
              subst hX0
              have HOX := Lib.hid (show OwnW w.heap.size wr (.slice (some ⟨g, 0, none⟩) X.length yc) P by have h := HO.out; rw [HX.out] at h ⊢; simpa using h)
              have gq : ((P.getD i .empty).toList != []) = true := by rw [isE_nil, ht]; rfl
              generalize P.getD i .empty = z at *
              clear hX hpad hlen hget hkk hXn
              go_wp2_with fail
              refine bodyPost_ret (v := .tuple #[.slice (some ⟨g, 0, none⟩) X.length yc, .bool false]) (by simp [results, Tryd.results17, go_sem]) rfl ?_
              exact ⟨_, by rw [HF.out.1], by rw [HF.out.2]; exact HOX.out, HB.out⟩
            | true =>
              have HF := Lib.hid (rec_yes (P := P) HRD.out (by rcases HP.out with h | h; exact .inl h; exact .inr ⟨by omega, by simpa using ht⟩))
              have HST := Lib.hid (HO.out.storedAt i s)
              have HBT := Lib.hid (HB.out.setCell (p := ⟨g, i, none⟩) hgw (.string s))
              have gq : ((P.getD i .empty).toList != []) = false := by rw [isE_nil, ht]; rfl
              have HKK := Lib.hid hkk
              generalize P.getD i .empty = z at *
              clear hX hpad hlen hget hkk hXn
              go_wp2_with fail
              refine bodyPost_ret (v := .tuple #[.slice (some ⟨g, 0, none⟩) X.length yc, .bool true]) (by simp [results, Tryd.results17, go_sem]) rfl ?_
              exact ⟨_, by rw [HF.out.1], by rw [HF.out.2]; simp only [Int.toNat_natCast]; rw [← HKK.out, ← HX.out]; exact HST.out, HBT.out⟩
      · skip
        go_wp2_with fail
        refine (JR.out).mono ?_
        rintro e w1 ⟨rfl, hb⟩
        have hbA := (Below.refl w1.heap.size w1).alloc (Nat.le_refl _) (.cells #[] 9)
        have HN := Lib.hid (show OwnW w1.heap.size (w1.alloc (.cells #[] 9)) (.slice (some ⟨w1.heap.size, 0, none⟩) 0 0) [] from World.ownsRow_lit w1 #[] 0 (Nat.le_refl _) (Nat.zero_le _) rfl)
        have HS1 := Lib.hid ((HS.out.below hb (Nat.le_refl _)).below (hbA.mono hb.size) (Nat.le_refl _))
        have hz := hb.size
        have HB := Lib.hid (hb.trans (hbA.mono hb.size))
        clear hb hbA JR HS
        go_wp2_with (at_builtin; refine wpList_appW rfl _ _ rfl w1.heap.size _ [] rfl HN.out w.heap.size _ P rfl HS1.out (by simp; omega) (by simp) ?_; intro v' w2 ho2 hb2 hg2; (have ho2' : OwnW w1.heap.size w2 v' P := by simpa using ho2); obtain ⟨xa, xc, rfl⟩ := ho2'.shape; (have HO := Lib.hid (ho2'.mono hz)); (replace HB := Lib.hid (HB.out.trans (hb2.mono hz))); clear ho2 ho2' hb2 hg2 HN HS1)
        go_loopw [10] (fun u wr => ∃ k, P.length + k ≤ n ∧ Hid (OwnW w.heap.size wr u (P ++ List.replicate k ByteArray.empty)) ∧ Hid (Below w.heap.size w wr)) (fun u _ => n - lenOfW u)
        case atStart => exact ⟨0, by rcases HP.out with h | h <;> omega, Lib.hid (by simpa using HO.out), HB⟩
        case round =>
          clear HO HB
          obtain ⟨k, hk, HO, HB⟩ := hrel
          have hlen : (P ++ List.replicate k ByteArray.empty).length = P.length + k := by simp
          have hpad := padW P k
          obtain ⟨X, hX⟩ : ∃ X, X = P ++ List.replicate k ByteArray.empty := ⟨_, rfl⟩
          rw [← hX] at HO hlen hpad
          have HX := Lib.hid hX
          obtain ⟨ya, yc, rfl⟩ := HO.out.shape
          by_cases hlt : P.length + k < n
          · have hlt' : X.length < n := by omega
            have HPD := Lib.hid hpad
            have hz0 := HB.out.size
            have hlX : X.length ≤ 40 := by omega
            clear hX hpad hlen
            go_wp2_with (at_builtin; refine wpList_push1 rfl _ _ 37 rfl w.heap.size 9 (.string .empty) 16 Tryd.underlying37 infoW rfl _ _ _ rfl HO.out.row _ 1 rfl (by rfl) (by omega) (by omega) hz0 ?_; intro v' w9 hown' hb9 hg9)
            go_roundw
            case rel => exact ⟨k + 1, by omega, Lib.hid (by rw [HPD.out]; exact OwnW.snoc hown'), Lib.hid (HB.out.trans hb9)⟩
            case measure =>
              obtain ⟨va', vc', hv'⟩ := (OwnW.snoc hown').shape
              rw [hv']
              simp [lenOfW]; omega
          · have hXn : X.length = n := by omega
            have hge : ¬ X.length < n := by omega
            have hkk : k = n - P.length := by omega
            obtain ⟨g, c, hv, hgc, hgm, hgw, hgl⟩ := HO.out.there (by omega)
            injection hv with hv1 hv2 hv3
            subst hv1 hv3
            have hc := cellW HO.out i (by omega)
            have hiX : i < X.length := by omega
            have hiX' : (i : Int) < (X.length : Int) := by omega
            have hfz := HO.out.row.frozenAt i
            have hget : X.getD i .empty = P.getD i .empty := by
              rw [HX.out]
              rcases HP.out with h0 | h1
              · have := List.eq_nil_of_length_eq_zero h0
                subst this
                simp [List.getD]
                by_cases h : i < k <;> simp [h]
              · have : k = 0 := by omega
                subst this
                simp
            rw [hget] at hc
            cases ht : (P.getD i .empty).toList.isEmpty with
            | false =>
              have h0 : 0 < P.length := by
                rcases Nat.eq_zero_or_pos P.length with h | h
                · have := List.eq_nil_of_length_eq_zero h
                  subst this
                  simp at ht
                · exact h
              have HF := Lib.hid (rec_taken (P := P) HRD.out h0 (by simpa using ht))
              have hX0 : k = 0 := by rcases HP.out with h | h <;> omega
              subst hX0
              have HOX := Lib.hid (show OwnW w.heap.size wr (.slice (some ⟨g, 0, none⟩) X.length yc) P by have h := HO.out; rw [HX.out] at h ⊢; simpa using h)
              have gq : ((P.getD i .empty).toList != []) = true := by rw [isE_nil, ht]; rfl
              generalize P.getD i .empty = z at *
              clear hX hpad hlen hget hkk hXn
              go_wp2_with fail
              refine bodyPost_ret (v := .tuple #[.slice (some ⟨g, 0, none⟩) X.length yc, .bool false]) (by simp [results, Tryd.results17, go_sem]) rfl ?_
              exact ⟨_, by rw [HF.out.1], by rw [HF.out.2]; exact HOX.out, HB.out⟩
            | true =>
              have HF := Lib.hid (rec_yes (P := P) HRD.out (by rcases HP.out with h | h; exact .inl h; exact .inr ⟨by omega, by simpa using ht⟩))
              have HST := Lib.hid (HO.out.storedAt i s)
              have HBT := Lib.hid (HB.out.setCell (p := ⟨g, i, none⟩) hgw (.string s))
              have gq : ((P.getD i .empty).toList != []) = false := by rw [isE_nil, ht]; rfl
              have HKK := Lib.hid hkk
              generalize P.getD i .empty = z at *
              clear hX hpad hlen hget hkk hXn
              go_wp2_with fail
              refine bodyPost_ret (v := .tuple #[.slice (some ⟨g, 0, none⟩) X.length yc, .bool true]) (by simp [results, Tryd.results17, go_sem]) rfl ?_
              exact ⟨_, by rw [HF.out.1], by rw [HF.out.2]; simp only [Int.toNat_natCast]; rw [← HKK.out, ← HX.out]; exact HST.out, HBT.out⟩
end Go.Proofs.YtibpajlfcknegaaDoor.kit
