/-
  Chapter 5, plain lists: a log is read back from its format, by the specification's way (cut everywhere, write it again, compare) and by the program's (split at most fifteen times, each part strictly read).
-/
import Derived.Test.YtkkgonkpmdlelaaDoorS3Math
import Derived.Test.YtkkgonkpmdlelaaDoorS5Fmt
namespace Go.Proofs.YtkkgonkpmdlelaaDoor.kit
set_option linter.unusedVariables false
set_option linter.unusedSimpArgs false

theorem cuts_join {x : UInt8} : ∀ {ps : List (List UInt8)}, ps ≠ [] → (∀ p ∈ ps, x ∉ p) → cuts x (joinX x ps) = ps
  | [], h, _ => absurd rfl h
  | [p], _, h => cuts_none (h p (by simp))
  | p :: q :: ps, _, h => by
    rw [joinX, cuts_app (h p (by simp)), cuts_join (by simp) (fun y hy => h y (by simp only [List.mem_cons] at hy ⊢; exact .inr hy))]
    simp
theorem split_join {x : UInt8} : ∀ {ps : List (List UInt8)} {k : Nat}, ps ≠ [] → (∀ p ∈ ps, x ∉ p) → ps.length ≤ k + 1 → Lib.splitK [x] 0 k (joinX x ps) = ps
  | [], _, h, _, _ => absurd rfl h
  | [p], k, _, h, _ => split_none (h p (by simp)) k
  | p :: q :: ps, 0, _, _, hl => by simp at hl
  | p :: q :: ps, k + 1, _, h, hl => by
    rw [joinX, split_app (h p (by simp)), split_join (by simp) (fun y hy => h y (by simp only [List.mem_cons] at hy ⊢; exact .inr hy)) (by simpa using hl)]
    simp
theorem join_joinX (x : UInt8) : ∀ ps : List (List UInt8), Lib.join ps [x] = joinX x ps
  | [] => rfl
  | [p] => by rw [Lib.join_cons]; simp [Lib.joinTail, joinX]
  | p :: q :: ps => by
    have ih := join_joinX x (q :: ps)
    rw [Lib.join_cons] at ih ⊢
    have e : joinX x (p :: q :: ps) = p ++ x :: joinX x (q :: ps) := by simp [joinX]
    rw [e, ← ih]
    simp [Lib.joinTail]
theorem itoa_hi {n : Int} (h : 0 ≤ n) {x : UInt8} (hx : 57 < x.toNat) : x ∉ Lib.itoa n := fun hb => by have := itoa_byte h x hb; omega
theorem fmtO_hi {c s k o d v : Int} (h : okOp c s k o d v = true) {x : UInt8} (h1 : 57 < x.toNat) (h2 : x.toNat < 97) : x ∉ fmtO c s k o d v := by
  obtain ⟨hc, hs, ho, hv, hd⟩ := okOp_kind h
  have hd0 : 0 ≤ d := by rcases hd with ⟨_, rfl⟩ | ⟨_, h⟩ <;> omega
  have n1 := itoa_hi (n := c) (by omega) h1
  have n2 := itoa_hi (n := s) (by omega) h1
  have n3 := itoa_hi (n := o) (by omega) h1
  have n4 := itoa_hi (n := v) (by omega) h1
  have n5 := itoa_hi hd0 h1
  have m : ∀ y : UInt8, (y.toNat ≤ 57 ∨ 97 ≤ y.toNat) → x ≠ y := fun y hy e => by subst e; omega
  unfold fmtO
  rw [if_pos h]
  unfold fmtA
  split
  · simp only [List.mem_append, List.mem_cons, List.not_mem_nil, or_false, not_or, wordWrite]
    refine ⟨⟨⟨⟨n1, m 46 (by decide)⟩, n2⟩, m 32 (by decide)⟩, ⟨⟨?_, n3⟩, m 32 (by decide)⟩, n4⟩
    refine ⟨m _ (by decide), m _ (by decide), m _ (by decide), m _ (by decide), m _ (by decide), m _ (by decide)⟩
  · simp only [List.mem_append, List.mem_cons, List.not_mem_nil, or_false, not_or, wordSwap]
    refine ⟨⟨⟨⟨n1, m 46 (by decide)⟩, n2⟩, m 32 (by decide)⟩, ⟨⟨⟨⟨?_, n3⟩, m 32 (by decide)⟩, n5⟩, m 32 (by decide)⟩, n4⟩
    refine ⟨m _ (by decide), m _ (by decide), m _ (by decide), m _ (by decide), m _ (by decide)⟩
def opE (x : Ent) : Bool := okOp x.c x.s x.k x.o x.d x.v
theorem entOk_op {x : Ent} (h : entOk x = true) : opE x = true := by
  unfold entOk at h
  simp only [Bool.and_eq_true] at h
  exact h.2
theorem fmtE_no {x : Ent} (h : entOk x = true) : (59 : UInt8) ∉ fmtE x := by
  have he := entOk_e h
  unfold fmtE
  simp only [List.mem_append, List.mem_cons, List.not_mem_nil, or_false, not_or]
  exact ⟨⟨itoa_hi (by omega) (by decide), by decide⟩, fmtO_hi (entOk_op h) (by decide) (by decide)⟩
/-- one entry, read as the specification does -/
def looseE (p : List UInt8) : Ent :=
  ⟨numL ((cuts 58 p).getD 0 []), (parO ((cuts 58 p).getD ((cuts 58 p).length - 1) [])).1, (parO ((cuts 58 p).getD ((cuts 58 p).length - 1) [])).2.1, (parO ((cuts 58 p).getD ((cuts 58 p).length - 1) [])).2.2.1,
    (parO ((cuts 58 p).getD ((cuts 58 p).length - 1) [])).2.2.2.1, (parO ((cuts 58 p).getD ((cuts 58 p).length - 1) [])).2.2.2.2.1, (parO ((cuts 58 p).getD ((cuts 58 p).length - 1) [])).2.2.2.2.2⟩
theorem loose_fmt {x : Ent} (h : entOk x = true) : looseE (fmtE x) = x := by
  have he := entOk_e h
  have ho := entOk_op h
  have e : cuts 58 (fmtE x) = [Lib.itoa x.e, fmtO x.c x.s x.k x.o x.d x.v] := by
    unfold fmtE
    rw [List.append_assoc, List.singleton_append, cuts_app (itoa_hi (by omega) (by decide)), cuts_none (fmtO_hi ho (by decide) (by decide))]
  unfold looseE
  rw [e]
  simp only [List.length_cons, List.length_nil, List.getD_cons_zero, List.getD_cons_succ, Nat.reduceAdd, Nat.reduceSub]
  rw [num_itoa (by omega) (by omega), (par_fmt ho).2]
/-- one entry, read as the program does -/
def peOk (p : List UInt8) : Bool := parOk (Lib.cut p [58]).1 && parOok (Lib.cut p [58]).2.1
def peE (p : List UInt8) : Ent :=
  ⟨parN (Lib.cut p [58]).1, (parO (Lib.cut p [58]).2.1).1, (parO (Lib.cut p [58]).2.1).2.1, (parO (Lib.cut p [58]).2.1).2.2.1, (parO (Lib.cut p [58]).2.1).2.2.2.1, (parO (Lib.cut p [58]).2.1).2.2.2.2.1, (parO (Lib.cut p [58]).2.1).2.2.2.2.2⟩
theorem parOok_nil : parOok [] = false := by
  unfold parOok fitP
  simp [cuts]
theorem pe_fmt {x : Ent} (h : entOk x = true) : peOk (fmtE x) = true ∧ peE (fmtE x) = x := by
  have he := entOk_e h
  have ho := entOk_op h
  have e : Lib.cut (fmtE x) [58] = (Lib.itoa x.e, fmtO x.c x.s x.k x.o x.d x.v, true) := by
    unfold fmtE
    rw [List.append_assoc, List.singleton_append, cut_app (itoa_hi (by omega) (by decide))]
  have hp := par_itoa (n := x.e) (by omega) (by omega)
  have hf := par_fmt ho
  unfold peOk peE
  rw [e]
  simp only
  rw [hp.1, hp.2, hf.1, hf.2]
  exact ⟨rfl, rfl⟩
theorem pe_sound {p : List UInt8} (h : peOk p = true) : fmtE (peE p) = p := by
  unfold peOk at h
  rw [Bool.and_eq_true] at h
  rcases first_x 58 p with hn | ⟨a, r, hn, rfl⟩
  · rw [cut_none hn] at h
    simp only at h
    rw [parOok_nil] at h
    cases h.2
  · have e := cut_app (r := r) hn
    rw [e] at h
    simp only at h
    unfold fmtE peE
    rw [e]
    simp only
    have hs := (par_sound h.2).2
    unfold fmtT at hs
    rw [itoa_par h.1, hs]
    simp
/-- the entries that the specification reads -/
def outL (s : List UInt8) : List Ent := ((cuts 59 s).take 17).map looseE
def okPL (s : List UInt8) : Prop := s = wordNone ∨ (s ≠ [] ∧ fmtL (outL s) = s)
instance (s : List UInt8) : Decidable (okPL s) := inferInstanceAs (Decidable (_ ∨ _))
/-- ParseLog's two results -/
def parLok (s : List UInt8) : Bool := decide (okPL s)
def parLl (s : List UInt8) : List Ent := if s = wordNone then [] else if okPL s then outL s else []
theorem outL_len (s : List UInt8) : (outL s).length ≤ 17 := by unfold outL; rw [List.length_map, List.length_take]; omega
theorem parLl_len (s : List UInt8) : (parLl s).length ≤ 2097152 := by
  have := outL_len s
  unfold parLl
  split
  · simp
  · split
    · omega
    · simp
theorem joinTo_X (L : List Ent) : joinTo L L.length = joinX 59 (L.map fmtE) := by rw [← joinTo_join, join_joinX]
theorem gE_memE {L : List Ent} {x : Ent} (h : LOk L) (hx : x ∈ L) : entOk x = true := by
  obtain ⟨j, hj, rfl⟩ := List.mem_iff_getElem.1 hx
  have := (h.1 j hj).1
  unfold gE at this
  rw [List.getD_eq_getElem?_getD, List.getElem?_eq_getElem hj] at this
  exact this
theorem wordNone_no {L : List Ent} (h : LOk L) (h0 : L ≠ []) : joinX 59 (L.map fmtE) ≠ wordNone := fun e => by
  -- the first entry's text holds a ':' which the word has not
  cases L with
  | nil => exact h0 rfl
  | cons x L =>
    have hm : (58 : UInt8) ∈ joinX 59 ((x :: L).map fmtE) := by
      cases L with
      | nil => simp [joinX, fmtE]
      | cons y L => simp [joinX, fmtE]
    rw [e] at hm
    revert hm
    decide
/-- what the program reads strictly, the specification reads so -/
theorem strict_yes {s : List UInt8} (hn : s ≠ wordNone) (h1 : ∀ p ∈ Lib.splitK [59] 0 15 s, peOk p = true) (h2 : LOk ((Lib.splitK [59] 0 15 s).map peE)) :
    parLok s = true ∧ parLl s = (Lib.splitK [59] 0 15 s).map peE := by
  have hj := join_split 59 15 s
  have hp := split_pos 59 15 s
  generalize hps : Lib.splitK [59] 0 15 s = ps at *
  have hpf : (ps.map peE).map fmtE = ps := by
    rw [List.map_map]
    conv => rhs; rw [← List.map_id ps]
    exact List.map_congr_left (fun p hpm => pe_sound (h1 p hpm))
  have hno : ∀ p ∈ ps, (59 : UInt8) ∉ p := fun p hpm => by
    have := fmtE_no (gE_memE h2 (List.mem_map_of_mem (f := peE) hpm))
    rwa [pe_sound (h1 p hpm)] at this
  have hne : ps ≠ [] := fun e => by rw [e] at hp; simp at hp
  have hc : cuts 59 s = ps := by rw [← hj]; exact cuts_join hne hno
  have hl16 : ps.length ≤ 16 := by have := h2.2; rwa [List.length_map] at this
  have ho : outL s = ps.map peE := by
    unfold outL
    rw [hc, List.take_of_length_le (by omega)]
    refine List.map_congr_left (fun p hpm => ?_)
    have := loose_fmt (gE_memE h2 (List.mem_map_of_mem (f := peE) hpm))
    rwa [pe_sound (h1 p hpm)] at this
  have hf : fmtL (ps.map peE) = s := by
    unfold fmtL
    rw [if_pos h2, if_neg (by rw [List.length_map]; omega), joinTo_X, hpf, hj]
  have hs0 : s ≠ [] := fun e => by
    have hq := h1 [] (by
      rw [e] at hps
      rw [← hps]
      rw [split_none (by simp)]; simp)
    unfold peOk at hq
    rw [cut_none (by simp)] at hq
    simp only [par_nil, Bool.false_and] at hq
    cases hq
  have hok : okPL s := .inr ⟨hs0, by rw [ho]; exact hf⟩
  refine ⟨decide_eq_true hok, ?_⟩
  unfold parLl
  rw [if_neg hn, if_pos hok, ho]
/-- and the other way round -/
theorem strict_no {s : List UInt8} (hn : s ≠ wordNone) (h : ¬ ((∀ p ∈ Lib.splitK [59] 0 15 s, peOk p = true) ∧ LOk ((Lib.splitK [59] 0 15 s).map peE))) :
    parLok s = false ∧ parLl s = [] := by
  have hno : ¬ okPL s := fun hok => by
    rcases hok with e | ⟨hs0, hf⟩
    · exact hn e
    · have hL : LOk (outL s) := by
        by_cases hL : LOk (outL s)
        · exact hL
        · exfalso
          apply hs0
          rw [← hf]
          unfold fmtL
          rw [if_neg hL]
      have hne : outL s ≠ [] := fun e => by
        have h1 := congrArg List.length e
        unfold outL at h1
        rw [List.length_map, List.length_take] at h1
        have := List.length_pos_iff.2 (cuts_ne 59 s)
        simp only [List.length_nil] at h1
        omega
      have hj : joinX 59 ((outL s).map fmtE) = s := by
        rw [← joinTo_X]
        have h1 := hf
        unfold fmtL at h1
        rwa [if_pos hL, if_neg (by intro h0; exact hne (List.eq_nil_of_length_eq_zero h0))] at h1
      have hsp : Lib.splitK [59] 0 15 s = (outL s).map fmtE := by
        conv => lhs; rw [← hj]
        refine split_join (by simpa using hne) (fun p hp => ?_) (by rw [List.length_map]; have := hL.2; omega)
        obtain ⟨x, hx, rfl⟩ := List.mem_map.1 hp
        exact fmtE_no (gE_memE hL hx)
      apply h
      rw [hsp]
      refine ⟨fun p hp => ?_, ?_⟩
      · obtain ⟨x, hx, rfl⟩ := List.mem_map.1 hp
        exact (pe_fmt (gE_memE hL hx)).1
      · have : ((outL s).map fmtE).map peE = outL s := by
          rw [List.map_map]
          conv => rhs; rw [← List.map_id (outL s)]
          exact List.map_congr_left (fun x hx => (pe_fmt (gE_memE hL hx)).2)
        rw [this]
        exact hL
  refine ⟨decide_eq_false hno, ?_⟩
  unfold parLl
  rw [if_neg hn, if_neg hno]
end Go.Proofs.YtkkgonkpmdlelaaDoor.kit
