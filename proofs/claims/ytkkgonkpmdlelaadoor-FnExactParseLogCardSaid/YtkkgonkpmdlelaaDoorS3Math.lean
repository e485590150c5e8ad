/-
  Chapter 3, plain lists: an operation is read back from its format, by the specification's way (cut everywhere) and by the program's (split at most four times).
-/
import Derived.Test.YtkkgonkpmdlelaaDoorC1Parse
import Derived.Test.YtkkgonkpmdlelaaDoorS3Fmt
import Derived.Lib.Split
import Derived.Lib.IndexBytes
namespace Go.Proofs.YtkkgonkpmdlelaaDoor.kit
set_option linter.unusedVariables false
set_option linter.unusedSimpArgs false

/-- cut at every x -/
def cuts (x : UInt8) : List UInt8 → List (List UInt8)
  | [] => [[]]
  | b :: l => if b = x then [] :: cuts x l else (b :: (cuts x l).headD []) :: (cuts x l).tail
theorem cuts_ne (x : UInt8) (l : List UInt8) : cuts x l ≠ [] := by
  cases l with
  | nil => simp [cuts]
  | cons b l => unfold cuts; split <;> simp
theorem cuts_none {x : UInt8} {p : List UInt8} (h : x ∉ p) : cuts x p = [p] := by
  induction p with
  | nil => rfl
  | cons b p ih =>
    have hb : b ≠ x := fun e => h (by rw [e]; simp)
    have hp : x ∉ p := fun e => h (by simp [e])
    unfold cuts
    rw [if_neg hb, ih hp]; rfl
theorem cuts_app {x : UInt8} {p r : List UInt8} (h : x ∉ p) : cuts x (p ++ x :: r) = p :: cuts x r := by
  induction p with
  | nil => simp [cuts]
  | cons b p ih =>
    have hb : b ≠ x := fun e => h (by rw [e]; simp)
    have hp : x ∉ p := fun e => h (by simp [e])
    rw [List.cons_append, cuts, if_neg hb, ih hp]; rfl
theorem cuts_len (x : UInt8) (l : List UInt8) : (cuts x l).length ≤ l.length + 1 := by
  induction l with
  | nil => simp [cuts]
  | cons b l ih =>
    unfold cuts
    split
    · simp; omega
    · have := List.length_pos_iff.2 (cuts_ne x l)
      simp [List.length_tail]; omega

theorem cuts_mem {x : UInt8} {l p : List UInt8} (h : p ∈ cuts x l) : p.length ≤ l.length := by
  induction l generalizing p with
  | nil => simp [cuts] at h; simp [h]
  | cons b l ih =>
    unfold cuts at h
    split at h
    · rcases List.mem_cons.1 h with rfl | h
      · simp
      · have := ih h; simp; omega
    · have hne := cuts_ne x l
      generalize cuts x l = q at h ih hne
      cases q with
      | nil => exact absurd rfl hne
      | cons a q =>
        rcases List.mem_cons.1 h with rfl | h
        · have := ih (p := a) (by simp); simpa using this
        · have := ih (p := p) (List.mem_cons_of_mem _ h); simp; omega
theorem cuts_getD {x : UInt8} {l : List UInt8} (j : Nat) : ((cuts x l).getD j []).length ≤ l.length := by
  rcases Nat.lt_or_ge j (cuts x l).length with h | h
  · rw [List.getD_eq_getElem?_getD, List.getElem?_eq_getElem h]; exact cuts_mem (List.getElem_mem h)
  · rw [List.getD_eq_getElem?_getD, List.getElem?_eq_none h]; simp

theorem indexByte_app {x : UInt8} {p r : List UInt8} (h : x ∉ p) : Lib.indexByte (p ++ x :: r) x = p.length := by
  induction p with
  | nil => simp [Lib.indexByte]
  | cons b p ih =>
    have hb : (b == x) = false := by rw [beq_eq_false_iff_ne]; exact fun e => h (by rw [e]; simp)
    have hp : x ∉ p := fun e => h (by simp [e])
    have h1 : ((p.length : Int) == -1) = false := by rw [beq_eq_false_iff_ne]; omega
    rw [List.cons_append, Lib.indexByte, hb, ih hp, h1]; simp
theorem indexByte_no {x : UInt8} {p : List UInt8} (h : x ∉ p) : Lib.indexByte p x = -1 := by
  induction p with
  | nil => rfl
  | cons b p ih =>
    have hb : (b == x) = false := by rw [beq_eq_false_iff_ne]; exact fun e => h (by rw [e]; simp)
    have hp : x ∉ p := fun e => h (by simp [e])
    rw [Lib.indexByte, hb, ih hp]; simp
/-- a text holds x, and then it is what lies ahead of the first x, x, and the rest; or it does not -/
theorem first_x (x : UInt8) (l : List UInt8) : x ∉ l ∨ ∃ p r, x ∉ p ∧ l = p ++ x :: r := by
  induction l with
  | nil => exact .inl (by simp)
  | cons b l ih =>
    by_cases hb : b = x
    · subst hb; exact .inr ⟨[], l, by simp, rfl⟩
    · rcases ih with h | ⟨p, r, h, rfl⟩
      · exact .inl (by simp [Ne.symm hb, h])
      · exact .inr ⟨b :: p, r, by simp [Ne.symm hb, h], rfl⟩
theorem split_none {x : UInt8} {p : List UInt8} (h : x ∉ p) (k : Nat) : Lib.splitK [x] 0 k p = [p] := by
  cases k with
  | zero => rfl
  | succ k => rw [Lib.splitK, Lib.index_one, indexByte_no h]; rfl
theorem split_app {x : UInt8} {p r : List UInt8} (h : x ∉ p) (k : Nat) : Lib.splitK [x] 0 (k + 1) (p ++ x :: r) = p :: Lib.splitK [x] 0 k r := by
  have h1 : ((p.length : Int) == -1) = false := by rw [beq_eq_false_iff_ne]; omega
  have e : (p ++ x :: r).drop (p.length + 1) = r := by rw [show p ++ x :: r = (p ++ [x]) ++ r by simp, List.drop_left' (by simp)]
  rw [Lib.splitK, Lib.index_one, indexByte_app h, h1]
  simp [e]
theorem cut_none {x : UInt8} {p : List UInt8} (h : x ∉ p) : Lib.cut p [x] = (p, [], false) := by
  unfold Lib.cut
  rw [Lib.index_one, indexByte_no h]; simp
theorem cut_app {x : UInt8} {p r : List UInt8} (h : x ∉ p) : Lib.cut (p ++ x :: r) [x] = (p, r, true) := by
  have e : (p ++ x :: r).drop (p.length + 1) = r := by rw [show p ++ x :: r = (p ++ [x]) ++ r by simp, List.drop_left' (by simp)]
  unfold Lib.cut
  rw [Lib.index_one, indexByte_app h]
  simp [e]
/-- the pieces, joined again -/
def joinX (x : UInt8) : List (List UInt8) → List UInt8
  | [] => []
  | [p] => p
  | p :: ps => p ++ x :: joinX x ps
theorem join_split (x : UInt8) : ∀ (k : Nat) (l : List UInt8), joinX x (Lib.splitK [x] 0 k l) = l
  | 0, l => rfl
  | k + 1, l => by
    rcases first_x x l with h | ⟨p, r, h, rfl⟩
    · rw [split_none h]; rfl
    · rw [split_app h]
      have ih := join_split x k r
      generalize hq : Lib.splitK [x] 0 k r = q at ih
      cases q with
      | nil => cases k <;> (unfold Lib.splitK at hq; first | (split at hq <;> cases hq) | cases hq)
      | cons a q => rw [joinX, ih]; simp
theorem split_pos (x : UInt8) (k : Nat) (l : List UInt8) : 0 < (Lib.splitK [x] 0 k l).length := by
  cases k with
  | zero => simp [Lib.splitK]
  | succ k => unfold Lib.splitK; split <;> simp

/-! ### numerals hold no blank and no dot -/
theorem itoa_byte {n : Int} (h : 0 ≤ n) : ∀ b ∈ Lib.itoa n, 48 ≤ b.toNat ∧ b.toNat ≤ 57 := by
  intro b hb
  unfold Lib.itoa at hb
  rw [if_neg (by omega)] at hb
  have := (dec_sum n.toNat).2.2 b hb
  unfold isDig at this
  exact of_decide_eq_true this
theorem itoa_no {n : Int} (h : 0 ≤ n) {x : UInt8} (hx : x.toNat < 48) : x ∉ Lib.itoa n := fun hb => by have := itoa_byte h x hb; omega
theorem par_itoa {n : Int} (h0 : 0 ≤ n) (h1 : n < 1000000000) : parOk (Lib.itoa n) = true ∧ parN (Lib.itoa n) = n := par_yes rfl (by omega)
theorem itoa_par {l : List UInt8} (h : parOk l = true) : Lib.itoa (parN l) = l := by
  unfold parN
  rw [h]
  exact (of_decide_eq_true h).1
theorem par_nil : parOk [] = false := by
  cases h : parOk [] with
  | false => rfl
  | true =>
    have := itoa_par h
    have hp : 0 < (Lib.itoa (parN [])).length := by
      unfold Lib.itoa
      split
      · simp
      · exact decDigits_pos _
    rw [this] at hp; simp at hp

/-! ### the two ways to read an operation -/
def wW : List UInt8 := [119, 114, 105, 116, 101]
def wS : List UInt8 := [115, 119, 97, 112]
/-- a number from 0 up, else -1 -/
def numL (l : List UInt8) : Int := if parOk l && decide (0 ≤ parN l) then parN l else -1
theorem num_itoa {n : Int} (h0 : 0 ≤ n) (h1 : n < 1000000000) : numL (Lib.itoa n) = n := by
  have := par_itoa h0 h1
  unfold numL
  rw [this.1, this.2, decide_eq_true h0]; rfl
/-- (Client, Seq, Kind, Object, Old, Value) -/
def opOf (ps hs : List (List UInt8)) : Int × Int × Int × Int × Int × Int :=
  (numL (hs.getD 0 []), numL (hs.getD 1 []), if ps.getD 1 [] = wW then 1 else if ps.getD 1 [] = wS then 2 else 0, numL (ps.getD 2 []), if ps.getD 1 [] = wW then 0 else if ps.getD 1 [] = wS then numL (ps.getD 3 []) else 0, numL (ps.getD (ps.length - 1) []))
def okT (t : Int × Int × Int × Int × Int × Int) : Bool := okOp t.1 t.2.1 t.2.2.1 t.2.2.2.1 t.2.2.2.2.1 t.2.2.2.2.2
def fmtT (t : Int × Int × Int × Int × Int × Int) : List UInt8 := fmtO t.1 t.2.1 t.2.2.1 t.2.2.2.1 t.2.2.2.2.1 t.2.2.2.2.2
/-- the pieces have the right counts -/
def fitP (l : List UInt8) : Bool := !decide ((cuts 32 l).length < 4) && decide ((cuts 46 ((cuts 32 l).getD 0 [])).length = 2)
def rawO (l : List UInt8) : Int × Int × Int × Int × Int × Int := opOf (cuts 32 l) (cuts 46 ((cuts 32 l).getD 0 []))
/-- ParseOp's two results -/
def parOok (l : List UInt8) : Bool := fitP l && decide (fmtT (rawO l) = l)
def parO (l : List UInt8) : Int × Int × Int × Int × Int × Int := if parOok l then rawO l else (0, 0, 0, 0, 0, 0)

theorem pieces {c s k o d v : Int} (h : okOp c s k o d v = true) : ∃ ps hs, cuts 32 (fmtO c s k o d v) = ps ∧ cuts 46 (ps.getD 0 []) = hs ∧ opOf ps hs = (c, s, k, o, d, v) ∧ 4 ≤ ps.length ∧ hs.length = 2 ∧
    (∀ j, 4 ≤ j → Lib.splitK [32] 0 j (fmtO c s k o d v) = ps) ∧ Lib.cut (ps.getD 0 []) [46] = (Lib.itoa c, Lib.itoa s, true) ∧ (k = 1 ∧ d = 0 ∧ ps.drop 1 = [wW, Lib.itoa o, Lib.itoa v] ∨ k = 2 ∧ ps.drop 1 = [wS, Lib.itoa o, Lib.itoa d, Lib.itoa v]) := by
  obtain ⟨h1, h2, h3, h4, h5⟩ := okOp_kind h
  have d1 : (46 : UInt8) ∉ Lib.itoa c := itoa_no (by omega) (by decide)
  have d2 : (46 : UInt8) ∉ Lib.itoa s := itoa_no (by omega) (by decide)
  have b1 : (32 : UInt8) ∉ Lib.itoa c ++ 46 :: Lib.itoa s := by
    have x1 : (32 : UInt8) ∉ Lib.itoa c := itoa_no (by omega) (by decide)
    have x2 : (32 : UInt8) ∉ Lib.itoa s := itoa_no (by omega) (by decide)
    simp [x1, x2]
  have b2 : (32 : UInt8) ∉ Lib.itoa o := itoa_no (by omega) (by decide)
  have b3 : (32 : UInt8) ∉ Lib.itoa v := itoa_no (by omega) (by decide)
  have bw : (32 : UInt8) ∉ wW := by decide
  have bs : (32 : UInt8) ∉ wS := by decide
  have hh : cuts 46 (Lib.itoa c ++ 46 :: Lib.itoa s) = [Lib.itoa c, Lib.itoa s] := by rw [cuts_app d1, cuts_none d2]
  have hc : Lib.cut (Lib.itoa c ++ 46 :: Lib.itoa s) [46] = (Lib.itoa c, Lib.itoa s, true) := cut_app d1
  rcases h5 with ⟨rfl, rfl⟩ | ⟨rfl, h6⟩
  · have e : fmtO c s 1 o 0 v = (Lib.itoa c ++ 46 :: Lib.itoa s) ++ 32 :: (wW ++ 32 :: (Lib.itoa o ++ 32 :: Lib.itoa v)) := by
      unfold fmtO; rw [if_pos h]; simp [fmtA, wordWrite, wW]
    refine ⟨[Lib.itoa c ++ 46 :: Lib.itoa s, wW, Lib.itoa o, Lib.itoa v], [Lib.itoa c, Lib.itoa s], ?_, hh, ?_, by simp, rfl, ?_, hc, .inl ⟨rfl, rfl, rfl⟩⟩
    · rw [e, cuts_app b1, cuts_app bw, cuts_app b2, cuts_none b3]
    · have n1 := num_itoa (n := c) (by omega) (by omega)
      have n2 := num_itoa (n := s) (by omega) (by omega)
      have n3 := num_itoa (n := o) (by omega) (by omega)
      have n4 := num_itoa (n := v) (by omega) (by omega)
      simp [opOf, n1, n2, n3, n4]
    · intro j hj
      obtain ⟨j, rfl⟩ : ∃ i, j = i + 4 := ⟨j - 4, by omega⟩
      rw [e, split_app b1, split_app bw, split_app b2, split_none b3]
  · have b4 : (32 : UInt8) ∉ Lib.itoa d := itoa_no (by omega) (by decide)
    have e : fmtO c s 2 o d v = (Lib.itoa c ++ 46 :: Lib.itoa s) ++ 32 :: (wS ++ 32 :: (Lib.itoa o ++ 32 :: (Lib.itoa d ++ 32 :: Lib.itoa v))) := by
      unfold fmtO; rw [if_pos h]; simp [fmtA, wordSwap, wS]
    refine ⟨[Lib.itoa c ++ 46 :: Lib.itoa s, wS, Lib.itoa o, Lib.itoa d, Lib.itoa v], [Lib.itoa c, Lib.itoa s], ?_, hh, ?_, by simp, rfl, ?_, hc, .inr ⟨rfl, rfl⟩⟩
    · rw [e, cuts_app b1, cuts_app bs, cuts_app b2, cuts_app b4, cuts_none b3]
    · have n1 := num_itoa (n := c) (by omega) (by omega)
      have n2 := num_itoa (n := s) (by omega) (by omega)
      have n3 := num_itoa (n := o) (by omega) (by omega)
      have n4 := num_itoa (n := v) (by omega) (by omega)
      have n5 := num_itoa (n := d) (by omega) (by omega)
      simp [opOf, n1, n2, n3, n4, n5, wW, wS]
    · intro j hj
      obtain ⟨j, rfl⟩ : ∃ i, j = i + 4 := ⟨j - 4, by omega⟩
      rw [e, split_app b1, split_app bs, split_app b2, split_app b4, split_none b3]
/-- an operation is read back from its format -/
theorem par_fmt {c s k o d v : Int} (h : okOp c s k o d v = true) : parOok (fmtO c s k o d v) = true ∧ parO (fmtO c s k o d v) = (c, s, k, o, d, v) := by
  obtain ⟨ps, hs, h1, h2, h3, h4, h5, _⟩ := pieces h
  have hr : rawO (fmtO c s k o d v) = (c, s, k, o, d, v) := by unfold rawO; rw [h1, h2, h3]
  have hk : parOok (fmtO c s k o d v) = true := by
    unfold parOok fitP
    rw [h1, h2, hr, h5]
    simp [fmtT]; omega
  exact ⟨hk, by unfold parO; rw [if_pos hk, hr]⟩
theorem fit_ne {l : List UInt8} (h : fitP l = true) : l ≠ [] := by
  intro e; subst e
  simp [fitP, cuts] at h
theorem par_sound {l : List UInt8} (h : parOok l = true) : okT (parO l) = true ∧ fmtT (parO l) = l := by
  have h0 := h
  unfold parOok at h
  rw [Bool.and_eq_true] at h
  obtain ⟨h1, h2⟩ := h
  have h2 := of_decide_eq_true h2
  have e : parO l = rawO l := by unfold parO; rw [if_pos h0]
  rw [e]
  refine ⟨?_, h2⟩
  cases hk : okT (rawO l) with
  | true => rfl
  | false =>
    have : fmtT (rawO l) = [] := by unfold fmtT fmtO; rw [if_neg]; unfold okT at hk; rw [hk]; simp
    rw [this] at h2
    exact absurd h2.symm (fit_ne h1)

/-! ### the program's way -/
/-- the program's words -/
def wordsL (l : List UInt8) : List (List UInt8) := Lib.splitK [32] 0 (min 5 (l.length + 1) - 1) l
def originL (l : List UInt8) : List (List UInt8) := [(Lib.cut ((wordsL l).getD 0 []) [46]).1, (Lib.cut ((wordsL l).getD 0 []) [46]).2.1]
def allPar (ps : List (List UInt8)) : Bool := ps.all parOk
/-- the words fit, the action is known -/
def kindL (l : List UInt8) : Int := if (wordsL l).getD 1 [] = wW ∧ (wordsL l).length = 4 then 1 else if (wordsL l).getD 1 [] = wS ∧ (wordsL l).length = 5 then 2 else 0
def tupL (l : List UInt8) : Int × Int × Int × Int × Int × Int :=
  (parN ((originL l).getD 0 []), parN ((originL l).getD 1 []), kindL l, parN ((wordsL l).getD 2 []), if kindL l = 1 then 0 else parN ((wordsL l).getD 3 []), if kindL l = 1 then parN ((wordsL l).getD 3 []) else parN ((wordsL l).getD 4 []))
theorem kind_cases (l : List UInt8) : (kindL l = 1 ∧ (wordsL l).getD 1 [] = wW ∧ (wordsL l).length = 4) ∨ (kindL l = 2 ∧ (wordsL l).getD 1 [] = wS ∧ (wordsL l).length = 5) ∨ kindL l = 0 := by
  unfold kindL
  split
  · rename_i h; exact .inl ⟨rfl, h⟩
  · split
    · rename_i h; exact .inr (.inl ⟨rfl, h⟩)
    · exact .inr (.inr rfl)
theorem words_sound {l : List UInt8} (ho : allPar (originL l) = true) (hn : allPar ((wordsL l).drop 2) = true) (hk : kindL l ≠ 0) (hok : okT (tupL l) = true) : fmtT (tupL l) = l := by
  have hj := join_split 32 (min 5 (l.length + 1) - 1) l
  change joinX 32 (wordsL l) = l at hj
  have hK := kind_cases l
  unfold tupL at hok ⊢
  unfold originL at ho hok ⊢
  generalize kindL l = kk at *
  generalize hq : wordsL l = ws at *
  rcases hK with ⟨rfl, hw, h4⟩ | ⟨rfl, hw, h4⟩ | h
  · match ws, h4 with
    | [a, b, x, y], _ =>
      simp only [allPar, List.drop_succ_cons, List.drop_zero, List.all_cons, List.all_nil, Bool.and_true, Bool.and_eq_true, List.getD_cons_zero, List.getD_cons_succ] at hn hw ho hok ⊢
      rcases first_x 46 a with hf | ⟨p, r, hf, rfl⟩
      · rw [cut_none hf] at ho
        have := ho.2; rw [par_nil] at this; cases this
      · rw [cut_app hf] at ho hok ⊢
        have e1 := itoa_par ho.1
        have e2 := itoa_par ho.2
        have e3 := itoa_par hn.1
        have e4 := itoa_par hn.2
        simp only at e1 e2
        unfold fmtT fmtO
        unfold okT at hok
        rw [if_pos hok, ← hj, hw]
        simp only [if_pos]
        rw [e1, e2]
        simp [fmtA, joinX, wordWrite, wW, e3, e4]
  · match ws, h4 with
    | [a, b, x, z, y], _ =>
      simp only [allPar, List.drop_succ_cons, List.drop_zero, List.all_cons, List.all_nil, Bool.and_true, Bool.and_eq_true, List.getD_cons_zero, List.getD_cons_succ] at hn hw ho hok ⊢
      rcases first_x 46 a with hf | ⟨p, r, hf, rfl⟩
      · rw [cut_none hf] at ho
        have := ho.2; rw [par_nil] at this; cases this
      · rw [cut_app hf] at ho hok ⊢
        have e1 := itoa_par ho.1
        have e2 := itoa_par ho.2
        have e3 := itoa_par hn.1
        have e4 := itoa_par hn.2.1
        have e5 := itoa_par hn.2.2
        simp only at e1 e2
        unfold fmtT fmtO
        unfold okT at hok
        rw [if_pos hok, ← hj, hw]
        simp only [show ((2 : Int) = 1) = False from by simp, if_false]
        rw [e1, e2]
        simp [fmtA, joinX, wordSwap, wS, e3, e4, e5]
  · exact absurd h hk
/-- the program succeeds just where the specification does -/
theorem words_all {l : List UInt8} (h : parOok l = true) : 2 ≤ (wordsL l).length ∧ allPar (originL l) = true ∧ allPar ((wordsL l).drop 2) = true ∧ kindL l ≠ 0 ∧ tupL l = parO l := by
  obtain ⟨hk, hf⟩ := par_sound h
  obtain ⟨c, s, k, o, d, v, hv⟩ : ∃ c s k o d v, parO l = (c, s, k, o, d, v) := ⟨_, _, _, _, _, _, rfl⟩
  rw [hv] at hk hf ⊢
  have hk : okOp c s k o d v = true := hk
  have hf : fmtO c s k o d v = l := hf
  obtain ⟨ps, hs, h1, h2, h3, h4, h5, h6, h7, h8⟩ := pieces hk
  obtain ⟨b1, b2, b3, b4, b5⟩ := okOp_kind hk
  rw [hf] at h1 h6
  have hl : 4 ≤ l.length := by
    have := cuts_len 32 l
    rw [h1] at this
    have hz : l.length ≠ 3 := by
      intro e
      rw [← hf] at e
      unfold fmtO at e
      rw [if_pos hk] at e
      have := decDigits_pos c.toNat
      have hc : (Lib.itoa c).length = (Lib.decDigits c.toNat).length := by unfold Lib.itoa; rw [if_neg (by omega)]
      rcases b5 with ⟨rfl, rfl⟩ | ⟨rfl, _⟩ <;> simp [fmtA, wordWrite, wordSwap] at e <;> omega
    omega
  have hw : wordsL l = ps := h6 _ (by omega)
  have p1 := par_itoa (n := c) (by omega) (by omega)
  have p2 := par_itoa (n := s) (by omega) (by omega)
  have p3 := par_itoa (n := o) (by omega) (by omega)
  have p4 := par_itoa (n := v) (by omega) (by omega)
  have ho : originL l = [Lib.itoa c, Lib.itoa s] := by unfold originL; rw [hw, h7]
  have hoo : allPar (originL l) = true := by rw [ho]; simp [allPar, p1.1, p2.1]
  rcases h8 with ⟨rfl, rfl, h8⟩ | ⟨rfl, h8⟩
  · match ps, h8 with
    | [a, b, x, y], h8 =>
      simp only [List.drop_succ_cons, List.drop_zero, List.cons.injEq, and_true] at h8
      obtain ⟨rfl, rfl, rfl⟩ := h8
      have hkd : kindL l = 1 := by unfold kindL; rw [hw]; simp
      refine ⟨by rw [hw]; simp, hoo, by rw [hw]; simp [allPar, p3.1, p4.1], by rw [hkd]; omega, ?_⟩
      unfold tupL
      rw [hkd, ho, hw]
      simp [p1.2, p2.2, p3.2, p4.2]
  · have p5 := par_itoa (n := d) (by omega) (by omega)
    match ps, h8 with
    | [a, b, x, z, y], h8 =>
      simp only [List.drop_succ_cons, List.drop_zero, List.cons.injEq, and_true] at h8
      obtain ⟨rfl, rfl, rfl, rfl⟩ := h8
      have hkd : kindL l = 2 := by unfold kindL; rw [hw]; simp [wS, wW]
      refine ⟨by rw [hw]; simp, hoo, by rw [hw]; simp [allPar, p3.1, p4.1, p5.1], by rw [hkd]; omega, ?_⟩
      unfold tupL
      rw [hkd, ho, hw]
      simp [p1.2, p2.2, p3.2, p4.2, p5.2]
theorem impl_yes {l : List UInt8} (ho : allPar (originL l) = true) (hn : allPar ((wordsL l).drop 2) = true) (hk : kindL l ≠ 0) (hok : okT (tupL l) = true) : parOok l = true ∧ parO l = tupL l := by
  have hf := words_sound ho hn hk hok
  have := par_fmt hok
  change parOok (fmtT (tupL l)) = true ∧ parO (fmtT (tupL l)) = tupL l at this
  rwa [hf] at this
theorem impl_no {l : List UInt8} (h : ¬ (2 ≤ (wordsL l).length ∧ allPar (originL l) = true ∧ allPar ((wordsL l).drop 2) = true ∧ kindL l ≠ 0 ∧ okT (tupL l) = true)) : parOok l = false ∧ parO l = (0, 0, 0, 0, 0, 0) := by
  have h1 : parOok l = false := by
    cases hp : parOok l with
    | false => rfl
    | true =>
      obtain ⟨a, b, c, d, e⟩ := words_all hp
      exact absurd ⟨a, b, c, d, by rw [e]; exact (par_sound hp).1⟩ h
  exact ⟨h1, by unfold parO; rw [h1]; rfl⟩
theorem words_len (l : List UInt8) : 1 ≤ (wordsL l).length ∧ (wordsL l).length ≤ 5 := by
  refine ⟨split_pos _ _ _, ?_⟩
  have hB := Lib.splitB_length_le ⟨[32].toArray⟩ 0 (min 5 (l.length + 1) - 1) ⟨l.toArray⟩
  have hD := Lib.splitB_data ⟨[32].toArray⟩ 0 (min 5 (l.length + 1) - 1) ⟨l.toArray⟩
  have := congrArg List.length hD
  rw [List.length_map] at this
  unfold wordsL
  rw [← this]
  omega
end Go.Proofs.YtkkgonkpmdlelaaDoor.kit
