/-
  Chapter 3, plain lists: an operation is read back from its format, by the specification's way (cut everywhere) and by the program's (split at most four times).
-/
import Derived.Test.YtgjebjoaemeeoaaGreatDoorCuts
import Derived.Test.YtgjebjoaemeeoaaGreatDoorS3Fmt
namespace Go.Proofs.YtgjebjoaemeeoaaGreatDoor.kit
set_option linter.unusedVariables false
set_option linter.unusedSimpArgs false

/-! ### the two ways to read an operation -/
def wW : List UInt8 := [119, 114, 105, 116, 101]
def wS : List UInt8 := [115, 119, 97, 112]
/-- (Client, Seq, Kind, Object, Old, Value) -/
def opOf (ps hs : List (List UInt8)) : Int × Int × Int × Int × Int × Int :=
  (numL (hs.getD 0 []), numL (hs.getD 1 []), if ps.getD 1 [] = wW then 1 else if ps.getD 1 [] = wS then 2 else 0, numL (ps.getD 2 []), if ps.getD 1 [] = wW then 0 else if ps.getD 1 [] = wS then numL (ps.getD 3 []) else 0, numL (ps.getD (ps.length - 1) []))
def okT (t : Int × Int × Int × Int × Int × Int) : Bool := okOp t.1 t.2.1 t.2.2.1 t.2.2.2.1 t.2.2.2.2.1 t.2.2.2.2.2
def fmtT (t : Int × Int × Int × Int × Int × Int) : List UInt8 := fmtO t.1 t.2.1 t.2.2.1 t.2.2.2.1 t.2.2.2.2.1 t.2.2.2.2.2
/-- the pieces have the right counts -/
def fitP (l : List UInt8) : Bool := !decide ((cuts 32 l).length < 4) && decide ((cuts 46 ((cuts 32 l).getD 0 [])).length = 2)
def rawO (l : List UInt8) : Int × Int × Int × Int × Int × Int := opOf (cuts 32 l) (cuts 46 ((cuts 32 l).getD 0 []))
/-- ParseOp's two results -/
def parOok (l : List UInt8) : Bool := fitP l && decide (fmtT (rawO l) = l)
def parO (l : List UInt8) : Int × Int × Int × Int × Int × Int := if parOok l then rawO l else (0, 0, 0, 0, 0, 0)

theorem pieces {c s k o d v : Int} (h : okOp c s k o d v = true) : ∃ ps hs, cuts 32 (fmtO c s k o d v) = ps ∧ cuts 46 (ps.getD 0 []) = hs ∧ opOf ps hs = (c, s, k, o, d, v) ∧ 4 ≤ ps.length ∧ hs.length = 2 ∧
    (∀ j, 4 ≤ j → Lib.splitK [32] 0 j (fmtO c s k o d v) = ps) ∧ Lib.cut (ps.getD 0 []) [46] = (Lib.itoa c, Lib.itoa s, true) ∧ (k = 1 ∧ d = 0 ∧ ps.drop 1 = [wW, Lib.itoa o, Lib.itoa v] ∨ k = 2 ∧ ps.drop 1 = [wS, Lib.itoa o, Lib.itoa d, Lib.itoa v]) := by
  obtain ⟨h1, h2, h3, h4, h5⟩ := okOp_kind h
  have d1 : (46 : UInt8) ∉ Lib.itoa c := itoa_no (by omega) (by decide)
  have d2 : (46 : UInt8) ∉ Lib.itoa s := itoa_no (by omega) (by decide)
  have b1 : (32 : UInt8) ∉ Lib.itoa c ++ 46 :: Lib.itoa s := by
    have x1 : (32 : UInt8) ∉ Lib.itoa c := itoa_no (by omega) (by decide)
    have x2 : (32 : UInt8) ∉ Lib.itoa s := itoa_no (by omega) (by decide)
    simp [x1, x2]
  have b2 : (32 : UInt8) ∉ Lib.itoa o := itoa_no (by omega) (by decide)
  have b3 : (32 : UInt8) ∉ Lib.itoa v := itoa_no (by omega) (by decide)
  have bw : (32 : UInt8) ∉ wW := by decide
  have bs : (32 : UInt8) ∉ wS := by decide
  have hh : cuts 46 (Lib.itoa c ++ 46 :: Lib.itoa s) = [Lib.itoa c, Lib.itoa s] := by rw [cuts_app d1, cuts_none d2]
  have hc : Lib.cut (Lib.itoa c ++ 46 :: Lib.itoa s) [46] = (Lib.itoa c, Lib.itoa s, true) := cut_app d1
  rcases h5 with ⟨rfl, rfl⟩ | ⟨rfl, h6⟩
  · have e : fmtO c s 1 o 0 v = (Lib.itoa c ++ 46 :: Lib.itoa s) ++ 32 :: (wW ++ 32 :: (Lib.itoa o ++ 32 :: Lib.itoa v)) := by
      unfold fmtO; rw [if_pos h]; simp [fmtA, wordWrite, wW]
    refine ⟨[Lib.itoa c ++ 46 :: Lib.itoa s, wW, Lib.itoa o, Lib.itoa v], [Lib.itoa c, Lib.itoa s], ?_, hh, ?_, by simp, rfl, ?_, hc, .inl ⟨rfl, rfl, rfl⟩⟩
    · rw [e, cuts_app b1, cuts_app bw, cuts_app b2, cuts_none b3]
    · have n1 := num_itoa (n := c) (by omega) (by omega)
      have n2 := num_itoa (n := s) (by omega) (by omega)
      have n3 := num_itoa (n := o) (by omega) (by omega)
      have n4 := num_itoa (n := v) (by omega) (by omega)
      simp [opOf, n1, n2, n3, n4]
    · intro j hj
      obtain ⟨j, rfl⟩ : ∃ i, j = i + 4 := ⟨j - 4, by omega⟩
      rw [e, split_app b1, split_app bw, split_app b2, split_none b3]
  · have b4 : (32 : UInt8) ∉ Lib.itoa d := itoa_no (by omega) (by decide)
    have e : fmtO c s 2 o d v = (Lib.itoa c ++ 46 :: Lib.itoa s) ++ 32 :: (wS ++ 32 :: (Lib.itoa o ++ 32 :: (Lib.itoa d ++ 32 :: Lib.itoa v))) := by
      unfold fmtO; rw [if_pos h]; simp [fmtA, wordSwap, wS]
    refine ⟨[Lib.itoa c ++ 46 :: Lib.itoa s, wS, Lib.itoa o, Lib.itoa d, Lib.itoa v], [Lib.itoa c, Lib.itoa s], ?_, hh, ?_, by simp, rfl, ?_, hc, .inr ⟨rfl, rfl⟩⟩
    · rw [e, cuts_app b1, cuts_app bs, cuts_app b2, cuts_app b4, cuts_none b3]
    · have n1 := num_itoa (n := c) (by omega) (by omega)
      have n2 := num_itoa (n := s) (by omega) (by omega)
      have n3 := num_itoa (n := o) (by omega) (by omega)
      have n4 := num_itoa (n := v) (by omega) (by omega)
      have n5 := num_itoa (n := d) (by omega) (by omega)
      simp [opOf, n1, n2, n3, n4, n5, wW, wS]
    · intro j hj
      obtain ⟨j, rfl⟩ : ∃ i, j = i + 4 := ⟨j - 4, by omega⟩
      rw [e, split_app b1, split_app bs, split_app b2, split_app b4, split_none b3]
/-- an operation is read back from its format -/
theorem par_fmt {c s k o d v : Int} (h : okOp c s k o d v = true) : parOok (fmtO c s k o d v) = true ∧ parO (fmtO c s k o d v) = (c, s, k, o, d, v) := by
  obtain ⟨ps, hs, h1, h2, h3, h4, h5, _⟩ := pieces h
  have hr : rawO (fmtO c s k o d v) = (c, s, k, o, d, v) := by unfold rawO; rw [h1, h2, h3]
  have hk : parOok (fmtO c s k o d v) = true := by
    unfold parOok fitP
    rw [h1, h2, hr, h5]
    simp [fmtT]; omega
  exact ⟨hk, by unfold parO; rw [if_pos hk, hr]⟩
theorem fit_ne {l : List UInt8} (h : fitP l = true) : l ≠ [] := by
  intro e; subst e
  simp [fitP, cuts] at h
theorem par_sound {l : List UInt8} (h : parOok l = true) : okT (parO l) = true ∧ fmtT (parO l) = l := by
  have h0 := h
  unfold parOok at h
  rw [Bool.and_eq_true] at h
  obtain ⟨h1, h2⟩ := h
  have h2 := of_decide_eq_true h2
  have e : parO l = rawO l := by unfold parO; rw [if_pos h0]
  rw [e]
  refine ⟨?_, h2⟩
  cases hk : okT (rawO l) with
  | true => rfl
  | false =>
    have : fmtT (rawO l) = [] := by unfold fmtT fmtO; rw [if_neg]; unfold okT at hk; rw [hk]; simp
    rw [this] at h2
    exact absurd h2.symm (fit_ne h1)

/-! ### the program's way -/
/-- the program's words -/
def wordsL (l : List UInt8) : List (List UInt8) := Lib.splitK [32] 0 (min 5 (l.length + 1) - 1) l
def originL (l : List UInt8) : List (List UInt8) := [(Lib.cut ((wordsL l).getD 0 []) [46]).1, (Lib.cut ((wordsL l).getD 0 []) [46]).2.1]
/-- the words fit, the action is known -/
def kindL (l : List UInt8) : Int := if (wordsL l).getD 1 [] = wW ∧ (wordsL l).length = 4 then 1 else if (wordsL l).getD 1 [] = wS ∧ (wordsL l).length = 5 then 2 else 0
def tupL (l : List UInt8) : Int × Int × Int × Int × Int × Int :=
  (parN ((originL l).getD 0 []), parN ((originL l).getD 1 []), kindL l, parN ((wordsL l).getD 2 []), if kindL l = 1 then 0 else parN ((wordsL l).getD 3 []), if kindL l = 1 then parN ((wordsL l).getD 3 []) else parN ((wordsL l).getD 4 []))
theorem kind_cases (l : List UInt8) : (kindL l = 1 ∧ (wordsL l).getD 1 [] = wW ∧ (wordsL l).length = 4) ∨ (kindL l = 2 ∧ (wordsL l).getD 1 [] = wS ∧ (wordsL l).length = 5) ∨ kindL l = 0 := by
  unfold kindL
  split
  · rename_i h; exact .inl ⟨rfl, h⟩
  · split
    · rename_i h; exact .inr (.inl ⟨rfl, h⟩)
    · exact .inr (.inr rfl)
theorem words_sound {l : List UInt8} (ho : allPar (originL l) = true) (hn : allPar ((wordsL l).drop 2) = true) (hk : kindL l ≠ 0) (hok : okT (tupL l) = true) : fmtT (tupL l) = l := by
  have hj := join_split 32 (min 5 (l.length + 1) - 1) l
  change joinX 32 (wordsL l) = l at hj
  have hK := kind_cases l
  unfold tupL at hok ⊢
  unfold originL at ho hok ⊢
  generalize kindL l = kk at *
  generalize hq : wordsL l = ws at *
  rcases hK with ⟨rfl, hw, h4⟩ | ⟨rfl, hw, h4⟩ | h
  · match ws, h4 with
    | [a, b, x, y], _ =>
      simp only [allPar, List.drop_succ_cons, List.drop_zero, List.all_cons, List.all_nil, Bool.and_true, Bool.and_eq_true, List.getD_cons_zero, List.getD_cons_succ] at hn hw ho hok ⊢
      rcases first_x 46 a with hf | ⟨p, r, hf, rfl⟩
      · rw [cut_none hf] at ho
        have := ho.2; rw [par_nil] at this; cases this
      · rw [cut_app hf] at ho hok ⊢
        have e1 := itoa_par ho.1
        have e2 := itoa_par ho.2
        have e3 := itoa_par hn.1
        have e4 := itoa_par hn.2
        simp only at e1 e2
        unfold fmtT fmtO
        unfold okT at hok
        rw [if_pos hok, ← hj, hw]
        simp only [if_pos]
        rw [e1, e2]
        simp [fmtA, joinX, wordWrite, wW, e3, e4]
  · match ws, h4 with
    | [a, b, x, z, y], _ =>
      simp only [allPar, List.drop_succ_cons, List.drop_zero, List.all_cons, List.all_nil, Bool.and_true, Bool.and_eq_true, List.getD_cons_zero, List.getD_cons_succ] at hn hw ho hok ⊢
      rcases first_x 46 a with hf | ⟨p, r, hf, rfl⟩
      · rw [cut_none hf] at ho
        have := ho.2; rw [par_nil] at this; cases this
      · rw [cut_app hf] at ho hok ⊢
        have e1 := itoa_par ho.1
        have e2 := itoa_par ho.2
        have e3 := itoa_par hn.1
        have e4 := itoa_par hn.2.1
        have e5 := itoa_par hn.2.2
        simp only at e1 e2
        unfold fmtT fmtO
        unfold okT at hok
        rw [if_pos hok, ← hj, hw]
        simp only [show ((2 : Int) = 1) = False from by simp, if_false]
        rw [e1, e2]
        simp [fmtA, joinX, wordSwap, wS, e3, e4, e5]
  · exact absurd h hk
/-- the program succeeds just where the specification does -/
theorem words_all {l : List UInt8} (h : parOok l = true) : 2 ≤ (wordsL l).length ∧ allPar (originL l) = true ∧ allPar ((wordsL l).drop 2) = true ∧ kindL l ≠ 0 ∧ tupL l = parO l := by
  obtain ⟨hk, hf⟩ := par_sound h
  obtain ⟨c, s, k, o, d, v, hv⟩ : ∃ c s k o d v, parO l = (c, s, k, o, d, v) := ⟨_, _, _, _, _, _, rfl⟩
  rw [hv] at hk hf ⊢
  have hk : okOp c s k o d v = true := hk
  have hf : fmtO c s k o d v = l := hf
  obtain ⟨ps, hs, h1, h2, h3, h4, h5, h6, h7, h8⟩ := pieces hk
  obtain ⟨b1, b2, b3, b4, b5⟩ := okOp_kind hk
  rw [hf] at h1 h6
  have hl : 4 ≤ l.length := by
    have := cuts_len 32 l
    rw [h1] at this
    have hz : l.length ≠ 3 := by
      intro e
      rw [← hf] at e
      unfold fmtO at e
      rw [if_pos hk] at e
      have := decDigits_pos c.toNat
      have hc : (Lib.itoa c).length = (Lib.decDigits c.toNat).length := by unfold Lib.itoa; rw [if_neg (by omega)]
      rcases b5 with ⟨rfl, rfl⟩ | ⟨rfl, _⟩ <;> simp [fmtA, wordWrite, wordSwap] at e <;> omega
    omega
  have hw : wordsL l = ps := h6 _ (by omega)
  have p1 := par_itoa (n := c) (by omega) (by omega)
  have p2 := par_itoa (n := s) (by omega) (by omega)
  have p3 := par_itoa (n := o) (by omega) (by omega)
  have p4 := par_itoa (n := v) (by omega) (by omega)
  have ho : originL l = [Lib.itoa c, Lib.itoa s] := by unfold originL; rw [hw, h7]
  have hoo : allPar (originL l) = true := by rw [ho]; simp [allPar, p1.1, p2.1]
  rcases h8 with ⟨rfl, rfl, h8⟩ | ⟨rfl, h8⟩
  · match ps, h8 with
    | [a, b, x, y], h8 =>
      simp only [List.drop_succ_cons, List.drop_zero, List.cons.injEq, and_true] at h8
      obtain ⟨rfl, rfl, rfl⟩ := h8
      have hkd : kindL l = 1 := by unfold kindL; rw [hw]; simp
      refine ⟨by rw [hw]; simp, hoo, by rw [hw]; simp [allPar, p3.1, p4.1], by rw [hkd]; omega, ?_⟩
      unfold tupL
      rw [hkd, ho, hw]
      simp [p1.2, p2.2, p3.2, p4.2]
  · have p5 := par_itoa (n := d) (by omega) (by omega)
    match ps, h8 with
    | [a, b, x, z, y], h8 =>
      simp only [List.drop_succ_cons, List.drop_zero, List.cons.injEq, and_true] at h8
      obtain ⟨rfl, rfl, rfl, rfl⟩ := h8
      have hkd : kindL l = 2 := by unfold kindL; rw [hw]; simp [wS, wW]
      refine ⟨by rw [hw]; simp, hoo, by rw [hw]; simp [allPar, p3.1, p4.1, p5.1], by rw [hkd]; omega, ?_⟩
      unfold tupL
      rw [hkd, ho, hw]
      simp [p1.2, p2.2, p3.2, p4.2, p5.2]
theorem impl_yes {l : List UInt8} (ho : allPar (originL l) = true) (hn : allPar ((wordsL l).drop 2) = true) (hk : kindL l ≠ 0) (hok : okT (tupL l) = true) : parOok l = true ∧ parO l = tupL l := by
  have hf := words_sound ho hn hk hok
  have := par_fmt hok
  change parOok (fmtT (tupL l)) = true ∧ parO (fmtT (tupL l)) = tupL l at this
  rwa [hf] at this
theorem impl_no {l : List UInt8} (h : ¬ (2 ≤ (wordsL l).length ∧ allPar (originL l) = true ∧ allPar ((wordsL l).drop 2) = true ∧ kindL l ≠ 0 ∧ okT (tupL l) = true)) : parOok l = false ∧ parO l = (0, 0, 0, 0, 0, 0) := by
  have h1 : parOok l = false := by
    cases hp : parOok l with
    | false => rfl
    | true =>
      obtain ⟨a, b, c, d, e⟩ := words_all hp
      exact absurd ⟨a, b, c, d, by rw [e]; exact (par_sound hp).1⟩ h
  exact ⟨h1, by unfold parO; rw [h1]; rfl⟩
theorem words_len (l : List UInt8) : 1 ≤ (wordsL l).length ∧ (wordsL l).length ≤ 5 := by
  refine ⟨split_pos _ _ _, ?_⟩
  have hB := Lib.splitB_length_le ⟨[32].toArray⟩ 0 (min 5 (l.length + 1) - 1) ⟨l.toArray⟩
  have hD := Lib.splitB_data ⟨[32].toArray⟩ 0 (min 5 (l.length + 1) - 1) ⟨l.toArray⟩
  have := congrArg List.length hD
  rw [List.length_map] at this
  unfold wordsL
  rw [← this]
  omega
end Go.Proofs.YtgjebjoaemeeoaaGreatDoor.kit
