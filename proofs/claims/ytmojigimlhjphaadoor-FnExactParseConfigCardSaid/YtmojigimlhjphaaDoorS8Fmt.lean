/-
  Chapter 8: FormatConfig of both.
-/
import Derived.Test.YtmojigimlhjphaaDoorS8Impl
import Derived.Test.YtmojigimlhjphaaDoorS8Spec
import Derived.Test.YtmojigimlhjphaaDoorS8Math
import Derived.Test.YtmojigimlhjphaaDoorKept
import Derived.Deep.RegionHeld3
namespace Go.Proofs.YtmojigimlhjphaaDoor.kit
open Go.ChangeShapes Go.WideShapes Go.ChangeAt Go.RowKit
set_option linter.unusedVariables false
set_option linter.unusedSimpArgs false

theorem fmtS_len (l : List Int) : (fmtS l).length ≤ 5 := by
  unfold fmtS
  by_cases h : are l = true
  · rw [if_pos h]
    by_cases h0 : l.length = 0
    · rw [if_pos h0]; simp
    · rw [if_neg h0, digs_length]; exact are_len h
  · rw [if_neg h]; simp
theorem bits_len {m : Nat} (hm : m < 32) : (bitsOf m).length ≤ 4194304 := by
  have := are_len (bits_are hm)
  omega
set_option maxRecDepth 100000 in
set_option maxHeartbeats 8000000 in
theorem specFormatConfig (x y : Int) (b1 b2 : Nat) (v1 v2 : Value) (L1 L2 : List Int) (w : World) (h1 : L1.length ≤ 1048576) (h2 : L2.length ≤ 1048576) (o1 : OwnI b1 w v1 L1) (o2 : OwnI b2 w v2 L2) :
    Calls Tryd.prog 6 #[.agg #[.int .i64 x, .int .i64 y, v1, v2]] w fun e w' => e = .returned (str (fmtC x y L1 L2)) ∧ Below w.heap.size w w' := by
  obtain ⟨WB, hWB⟩ : ∃ W, W = w.alloc (.cells #[.int .i64 x, .int .i64 y, v1, v2] 27) := ⟨_, rfl⟩
  have hB : Below w.heap.size w WB := by rw [hWB]; exact (Below.refl _ _).alloc (Nat.le_refl _) _
  have hz : w.heap.size + 1 ≤ WB.heap.size := by rw [hWB]; simp
  have HC := Lib.hid (show BoxC WB w.heap.size 27 #[.int .i64 x, .int .i64 y, v1, v2] by rw [hWB]; exact BoxC.new _ _ _)
  have J1 := Lib.hid (specIsValidConfig x y b1 b2 v1 v2 L1 L2 WB h1 h2 (o1.later hB) (o2.later hB))
  have J2 := fun W' (h : Below (w.heap.size + 1) WB W' ∧ (∀ b o, b < w.heap.size + 1 → W'.cell? ⟨b, o, none⟩ = WB.cell? ⟨b, o, none⟩)) => specFormatServers b1 v1 L1 W' (by omega) (o1.later (hB.trans (h.1.mono (Nat.le_succ _))))
  have J3 := fun W' (h : Below (w.heap.size + 1) WB W' ∧ (∀ b o, b < w.heap.size + 1 → W'.cell? ⟨b, o, none⟩ = WB.cell? ⟨b, o, none⟩)) => specFormatServers b2 v2 L2 W' (by omega) (o2.later (hB.trans (h.1.mono (Nat.le_succ _))))
  have HB := Lib.hid hB
  have HWB := Lib.hid hWB
  obtain ⟨y1, q1, rfl⟩ := o1.shape
  obtain ⟨y2, q2, rfl⟩ := o2.shape
  clear hB hWB o1 o2
  go_enter Tryd.func6, Tryd.ntmps6
  go_wp2_with fail
  rw [← HWB.out]
  have x0 := HC.out.c 0 rfl
  have x1 := HC.out.c 1 rfl
  have x2 := HC.out.c 2 rfl
  have x3 := HC.out.c 3 rfl
  go_wp2_with fail
  cases e1 : cfgOk x y L1 L2 with
  | false =>
    have HF := Lib.hid (show fmtC x y L1 L2 = [] by unfold fmtC; rw [e1]; rfl)
    rw [e1] at J1
    clear e1 J2 J3
    refine J1.out.mono ?_
    rintro e w1 ⟨rfl, hb⟩
    go_wp2_with fail
    go_ret
    exact ⟨by rw [HF.out]; rfl, HB.out.trans (hb.mono HB.out.size)⟩
  | true =>
    have hc := cfg_of e1
    have hy := cfg_y hc
    have hx := hc.1
    have HF := Lib.hid (show fmtC x y L1 L2 = Lib.itoa x ++ ([32] ++ (Lib.itoa y ++ ([32] ++ (fmtS L1 ++ ([32] ++ fmtS L2))))) by unfold fmtC; rw [if_pos e1])
    rw [e1] at J1
    have lx := itoa_le x (by omega) (by omega)
    have ly := itoa_le y (by omega) (by omega)
    have l1 := fmtS_len L1
    have l2 := fmtS_len L2
    clear e1 hc
    refine J1.out.mono ?_
    rintro e w1 ⟨rfl, hb⟩
    have hk := kept_of (hb.mono hz)
    have hcc := hk.2
    clear hb J1 x0 x1 x2 x3
    have x0 := (hcc w.heap.size 0 (Nat.lt_succ_self _)).trans (HC.out.c 0 rfl)
    have x1 := (hcc w.heap.size 1 (Nat.lt_succ_self _)).trans (HC.out.c 1 rfl)
    have x2 := (hcc w.heap.size 2 (Nat.lt_succ_self _)).trans (HC.out.c 2 rfl)
    have x3 := (hcc w.heap.size 3 (Nat.lt_succ_self _)).trans (HC.out.c 3 rfl)
    clear hcc
    go_wp2_with fail
    have e1 : ¬ (9223372036854775807 < (Lib.itoa x).length + 1) := by omega
    have e2 : ¬ (9223372036854775807 < (Lib.itoa x).length + 1 + (Lib.itoa y).length) := by omega
    have e3 : ¬ (9223372036854775807 < (Lib.itoa x).length + 1 + (Lib.itoa y).length + 1) := by omega
    have e4 : ¬ (9223372036854775807 < (Lib.itoa x).length + 1 + (Lib.itoa y).length + 1 + (fmtS L1).length) := by omega
    have e5 : ¬ (9223372036854775807 < (Lib.itoa x).length + 1 + (Lib.itoa y).length + 1 + (fmtS L1).length + 1) := by omega
    have e6 : ¬ (9223372036854775807 < (Lib.itoa x).length + 1 + (Lib.itoa y).length + 1 + (fmtS L1).length + 1 + (fmtS L2).length) := by omega
    have w0 : WB.cell? ⟨w.heap.size, 0, none⟩ = some (.int .i64 x) := HC.out.c 0 rfl
    have w1' : WB.cell? ⟨w.heap.size, 1, none⟩ = some (.int .i64 y) := HC.out.c 1 rfl
    have w2' : WB.cell? ⟨w.heap.size, 2, none⟩ = some (.slice y1 L1.length q1) := HC.out.c 2 rfl
    have w3' : WB.cell? ⟨w.heap.size, 3, none⟩ = some (.slice y2 L2.length q2) := HC.out.c 3 rfl
    go_region_held3 (fun w' => Below (w.heap.size + 1) WB w' ∧ (∀ b o, b < w.heap.size + 1 → w'.cell? ⟨b, o, none⟩ = WB.cell? ⟨b, o, none⟩)) (first | (with_reducible assumption) | (with_reducible exact kept_drew (by with_reducible assumption)) | (with_reducible exact kept_next (by with_reducible assumption) (by with_reducible assumption) hz))
      (first
        | (go_at_call 16; (with_reducible refine (specFormatInt _ _ (by omega) (by omega)).mono ?_); rintro e w2 ⟨rfl, hb2⟩)
        | (go_at_call 17; (with_reducible refine (J2 _ (by with_reducible assumption)).mono ?_); rintro e w2 ⟨rfl, hb2⟩)
        | (go_at_call 17; (with_reducible refine (J3 _ (by with_reducible assumption)).mono ?_); rintro e w2 ⟨rfl, hb2⟩))
    all_goals
      clear e1 e2 e3 e4 e5 e6
      rename_i hk2
      go_wp2_with fail
      go_ret
      refine ⟨?_, HB.out.trans (hk2.1.mono (Nat.le_succ _))⟩
      rw [HF.out]
      exact congrArg (fun x => Ending.returned (Value.string x)) (by apply ByteArray.ext; apply Array.ext'; simp)
theorem joinFour (W : World) (p0 p1 p2 p3 : List UInt8) (h0 : p0.length ≤ 1000) (h1 : p1.length ≤ 1000) (h2 : p2.length ≤ 1000) (h3 : p3.length ≤ 1000) :
    Calls Tryd.prog 41 #[.slice (some ⟨W.heap.size, 0, none⟩) 4 4, .string { data := #[32] }] (W.alloc (.cells #[str p0, str p1, str p2, str p3] 9)) fun e w' => e = .returned (str (p0 ++ ([32] ++ (p1 ++ ([32] ++ (p2 ++ ([32] ++ p3))))))) ∧ Below (W.alloc (.cells #[str p0, str p1, str p2, str p3] 9)).heap.size (W.alloc (.cells #[str p0, str p1, str p2, str p3] 9)) w' := by
  have e : Lib.join (([⟨p0.toArray⟩, ⟨p1.toArray⟩, ⟨p2.toArray⟩, ⟨p3.toArray⟩] : List ByteArray).map (·.data.toList)) ({ data := #[32] } : ByteArray).data.toList = p0 ++ ([32] ++ (p1 ++ ([32] ++ (p2 ++ ([32] ++ p3))))) := by
    show Lib.join [p0, p1, p2, p3] [32] = _
    rw [join_joinX]
    simp [joinX]
  have j := Tryd.strings_Join W.heap.size 0 4 [⟨p0.toArray⟩, ⟨p1.toArray⟩, ⟨p2.toArray⟩, ⟨p3.toArray⟩] { data := #[32] } (W.alloc (.cells #[str p0, str p1, str p2, str p3] 9)) (fun j x hx => ?_) (by simp) (by simp) (by simp) (by rw [e]; simp; omega)
  · rw [e] at j
    exact j
  · rw [Nat.zero_add, World.cell?_alloc_at _ _ _ _ rfl]
    match j, hx with
    | 0, hx => simp at hx; subst hx; rfl
    | 1, hx => simp at hx; subst hx; rfl
    | 2, hx => simp at hx; subst hx; rfl
    | 3, hx => simp at hx; subst hx; rfl
    | n + 4, hx => simp at hx
set_option maxRecDepth 100000 in
set_option maxHeartbeats 8000000 in
theorem implFormat (x y : Int) (m n : Nat) (w : World) (hx : 1 ≤ x ∧ x ≤ 20) (hy : 0 ≤ y ∧ y ≤ 4) (hm : m < 32) (hn : n < 32) (hT : Tab w) :
    Calls Tryd.prog 20 #[.agg #[.int .i64 x, .int .i64 y, .int .u8 m, .int .u8 n]] w fun e w' => e = .returned (str (Lib.itoa x ++ ([32] ++ (Lib.itoa y ++ ([32] ++ (fmtS (bitsOf m) ++ ([32] ++ fmtS (bitsOf n)))))))) ∧ Below w.heap.size w w' := by
  obtain ⟨WB, hWB⟩ : ∃ W, W = w.alloc (.cells #[.int .i64 x, .int .i64 y, .int .u8 m, .int .u8 n] 43) := ⟨_, rfl⟩
  have hB : Below w.heap.size w WB := by rw [hWB]; exact (Below.refl _ _).alloc (Nat.le_refl _) _
  have hz : w.heap.size + 1 ≤ WB.heap.size := by rw [hWB]; simp
  have HC := Lib.hid (show BoxC WB w.heap.size 43 #[.int .i64 x, .int .i64 y, .int .u8 m, .int .u8 n] by rw [hWB]; exact BoxC.new _ _ _)
  have JI := fun (z : Int) (h : 0 ≤ z ∧ z ≤ 20) W' (h' : Below (w.heap.size + 1) WB W' ∧ (∀ b o, b < w.heap.size + 1 → W'.cell? ⟨b, o, none⟩ = WB.cell? ⟨b, o, none⟩)) => implFormatInt z W' (by omega) (by omega) (hT.below (hB.trans (h'.1.mono (Nat.le_succ _))))
  have JX := JI x (by omega)
  have JY := JI y (by omega)
  have JE := fun W' h' => (show Calls Tryd.prog 37 #[.int .i64 x] W' fun e w' => e = .returned (str (Lib.itoa x)) ∧ Below W'.heap.size W' w' by
    have j := Lib.hid (JX W' h')
    clear JI JX JY
    go_enter Tryd.func37, Tryd.ntmps37
    go_wp2_with fail
    refine j.out.mono ?_
    rintro e w1 ⟨rfl, hb⟩
    go_wp2_with fail
    go_ret
    exact ⟨rfl, hb⟩)
  have JM := fun W' => implNumbers m W' hm
  have JN := fun W' => implNumbers n W' hn
  have lx := itoa_le x (by omega) (by omega)
  have ly := itoa_le y (by omega) (by omega)
  have l1 := fmtS_len (bitsOf m)
  have l2 := fmtS_len (bitsOf n)
  have k1 := bits_len hm
  have k2 := bits_len hn
  have HB := Lib.hid hB
  have HWB := Lib.hid hWB
  have hs0 : w.heap.size < w.heap.size + 1 := Nat.lt_succ_self _
  generalize bitsOf m = M at *
  generalize bitsOf n = N at *
  clear hB hWB JI JX hT
  go_enter Tryd.func20, Tryd.ntmps20
  go_wp2_with fail
  rw [← HWB.out]
  have hk := kept_of (Below.refl (w.heap.size + 1) WB)
  have w0 : WB.cell? ⟨w.heap.size, 0, none⟩ = some (.int .i64 x) := HC.out.c 0 rfl
  have w1' : WB.cell? ⟨w.heap.size, 1, none⟩ = some (.int .i64 y) := HC.out.c 1 rfl
  have w2' : WB.cell? ⟨w.heap.size, 2, none⟩ = some (.int .u8 m) := HC.out.c 2 rfl
  have w3' : WB.cell? ⟨w.heap.size, 3, none⟩ = some (.int .u8 n) := HC.out.c 3 rfl
  go_region_held3 (fun w' => Below (w.heap.size + 1) WB w' ∧ (∀ b o, b < w.heap.size + 1 → w'.cell? ⟨b, o, none⟩ = WB.cell? ⟨b, o, none⟩)) (first | (with_reducible assumption) | (with_reducible exact kept_drew (by with_reducible assumption)) | (with_reducible exact kept_next (by with_reducible assumption) (by with_reducible assumption) hz) | (with_reducible exact kept_alloc (by with_reducible assumption) hz _))
    (first
      | (go_at_call 37; (with_reducible refine (JE _ (by with_reducible assumption)).mono ?_); rintro e w2 ⟨rfl, hb2⟩)
      | (go_at_call 38; (with_reducible refine (JY _ (by with_reducible assumption)).mono ?_); rintro e w2 ⟨rfl, hb2⟩)
      | (go_at_call 40; (with_reducible refine (JM _).mono ?_); rintro e w2 ⟨v2, rfl, ho2, hb2⟩)
      | (go_at_call 40; (with_reducible refine (JN _).mono ?_); rintro e w2 ⟨v2, rfl, ho3, hb2⟩)
      | (go_at_call 39; (with_reducible refine (implFormatServers _ _ _ _ k1 ho2).mono ?_); rintro e w2 ⟨rfl, hb2⟩)
      | (go_at_call 39; (with_reducible refine (implFormatServers _ _ _ _ k2 ho3).mono ?_); rintro e w2 ⟨rfl, hb2⟩))
  all_goals
    rename_i hk2
    have HK := Lib.hid hk2
    have JJ := Lib.hid (joinFour w2 (Lib.itoa x) (Lib.itoa y) (fmtS M) (fmtS N) (by omega) (by omega) (by omega) (by omega))
    clear hk2
    go_wp2_with fail
    refine JJ.out.mono ?_
    rintro e w9 ⟨rfl, hb9⟩
    go_wp2_with fail
    go_ret
    exact ⟨rfl, HB.out.trans ((HK.out.1.trans (hb9.mono (Nat.le_trans hz HK.out.1.size))).mono (Nat.le_succ _))⟩
set_option maxRecDepth 100000 in
theorem implFormatConfig (x y : Int) (b1 b2 : Nat) (v1 v2 : Value) (L1 L2 : List Int) (w : World) (h1 : L1.length ≤ 4194304) (h2 : L2.length ≤ 4194304) (o1 : OwnI b1 w v1 L1) (o2 : OwnI b2 w v2 L2) (hT : Tab w) :
    Calls Tryd.prog 8 #[.agg #[.int .i64 x, .int .i64 y, v1, v2]] w fun e w' => e = .returned (str (fmtC x y L1 L2)) ∧ Below w.heap.size w w' := by
  obtain ⟨W, hW⟩ : ∃ W, W = w.alloc (.cells #[.int .i64 x, .int .i64 y, v1, v2] 27) := ⟨_, rfl⟩
  have hB : Below w.heap.size w W := by rw [hW]; exact (Below.refl _ _).alloc (Nat.le_refl _) _
  have HC := Lib.hid (show BoxC W w.heap.size 27 #[.int .i64 x, .int .i64 y, v1, v2] by rw [hW]; exact BoxC.new _ _ _)
  have j1 := implGroupOfO x y b1 b2 v1 v2 L1 L2 W h1 h2 (o1.later hB) (o2.later hB)
  have HB := Lib.hid hB
  have HW := Lib.hid hW
  have HT := Lib.hid (fun W' (h : Below w.heap.size w W') => hT.below h)
  obtain ⟨y1, q1, rfl⟩ := o1.shape
  obtain ⟨y2, q2, rfl⟩ := o2.shape
  clear hB hW o1 o2 hT
  cases e1 : cfgOk x y L1 L2 with
  | false =>
    have HF := Lib.hid (show fmtC x y L1 L2 = [] by unfold fmtC; rw [e1]; rfl)
    rw [e1, gV_no e1] at j1
    have J1 := Lib.hid j1
    clear e1 j1
    go_enter Tryd.func8, Tryd.ntmps8
    go_wp2_with fail
    rw [← HW.out]
    have x0 := HC.out.c 0 rfl
    have x1 := HC.out.c 1 rfl
    have x2 := HC.out.c 2 rfl
    have x3 := HC.out.c 3 rfl
    go_wp2_with fail
    refine J1.out.mono ?_
    rintro e w1 ⟨rfl, hb⟩
    replace HB := Lib.hid (HB.out.trans (hb.mono HB.out.size))
    clear hb HW J1 HC x0 x1 x2 x3
    go_wp2_with fail
    go_ret
    exact ⟨by rw [HF.out]; rfl, HB.out.alloc HB.out.size _⟩
  | true =>
    have hc := cfg_of e1
    have hy := cfg_y hc
    have HF := Lib.hid (show fmtC x y L1 L2 = Lib.itoa x ++ ([32] ++ (Lib.itoa y ++ ([32] ++ (fmtS L1 ++ ([32] ++ fmtS L2))))) by unfold fmtC; rw [if_pos e1])
    have j2 := fun W' (h : Tab W') => implFormat x y (maskOf L1) (maskOf L2) W' hc.1 hy (mask_lt _) (mask_lt _) h
    rw [are_mask hc.2.1, are_mask hc.2.2.1] at j2
    have J2 := Lib.hid j2
    rw [e1, gV_yes e1] at j1
    generalize maskOf L1 = m1 at *
    generalize maskOf L2 = m2 at *
    have J1 := Lib.hid j1
    clear e1 j1 hc j2 hy
    go_enter Tryd.func8, Tryd.ntmps8
    go_wp2_with fail
    rw [← HW.out]
    have x0 := HC.out.c 0 rfl
    have x1 := HC.out.c 1 rfl
    have x2 := HC.out.c 2 rfl
    have x3 := HC.out.c 3 rfl
    go_wp2_with fail
    refine J1.out.mono ?_
    rintro e w1 ⟨rfl, hb⟩
    replace HB := Lib.hid (HB.out.trans (hb.mono HB.out.size))
    clear hb HW J1 HC x0 x1 x2 x3
    go_wp2_with fail
    have hbA := HB.out.alloc HB.out.size (.cells #[.int .i64 x, .int .i64 y, .int .u8 (m1 : Nat), .int .u8 (m2 : Nat)] 43)
    refine (J2.out _ (HT.out _ hbA)).mono ?_
    rintro e w2 ⟨rfl, hb⟩
    have HB2 := Lib.hid (hbA.trans (hb.mono hbA.size))
    clear hbA hb J2
    go_wp2_with fail
    go_ret
    exact ⟨by rw [HF.out]; rfl, HB2.out⟩
end Go.Proofs.YtmojigimlhjphaaDoor.kit
