/-
  Chapter 7, chunks, in plain lists: what a chunk's text says, and that it says one thing only.
-/
import Derived.Test.YtibpajlfcknegaaDoorCuts
import Derived.Test.YtibpajlfcknegaaDoorS7Enc
namespace Go.Proofs.YtibpajlfcknegaaDoor.kit
open Go.ChangeShapes Go.WideShapes Go.ChangeAt Go.RowKit
set_option linter.unusedVariables false

theorem first_unique {x : UInt8} {p r p' r' : List UInt8} (h : p ++ x :: r = p' ++ x :: r') (h1 : x ∉ p) (h2 : x ∉ p') : p = p' ∧ r = r' := by
  induction p generalizing p' with
  | nil =>
    cases p' with
    | nil => simpa using h
    | cons y q => simp at h h2; exact absurd h.1 h2.1
  | cons z p ih =>
    cases p' with
    | nil => simp at h h1; exact absurd h.1.symm h1.1
    | cons y q =>
      simp only [List.cons_append, List.cons.injEq] at h
      obtain ⟨rfl, h⟩ := h
      obtain ⟨rfl, rfl⟩ := ih h (fun m => h1 (by simp [m])) (fun m => h2 (by simp [m]))
      exact ⟨rfl, rfl⟩
theorem last_unique {x : UInt8} {p r p' r' : List UInt8} (h : p ++ x :: r = p' ++ x :: r') (h1 : x ∉ r) (h2 : x ∉ r') : p = p' ∧ r = r' := by
  have e := congrArg List.reverse h
  simp only [List.reverse_append, List.reverse_cons, List.append_assoc, List.cons_append, List.nil_append] at e
  obtain ⟨e1, e2⟩ := first_unique e (by simpa using h1) (by simpa using h2)
  exact ⟨List.reverse_inj.1 e2, List.reverse_inj.1 e1⟩
/-- a part's numbers and data that some string has -/
def okK (i n : Int) (d : List UInt8) : Prop := 0 ≤ i ∧ i < n ∧ n ≤ 40 ∧ (d = [] → n = 1)
instance (i n : Int) (d : List UInt8) : Decidable (okK i n d) := inferInstanceAs (Decidable (_ ∧ _ ∧ _ ∧ _))
/-- the text s is the chunk of this part -/
def Reads (s : List UInt8) (i n : Int) (d : List UInt8) : Prop := okK i n d ∧ chunkL i n d = s
instance (s : List UInt8) (i n : Int) (d : List UInt8) : Decidable (Reads s i n d) := inferInstanceAs (Decidable (_ ∧ _))
theorem no58 {n : Int} (h : 0 ≤ n) : (58 : UInt8) ∉ Lib.itoa n := fun hb => by have := (itoa_byte h 58 hb).2; revert this; decide
/-- the last # of a chunk's text ends its content -/
theorem Reads.last {s : List UInt8} {i n : Int} {d c x : List UInt8} (h : Reads s i n d) (hs : s = c ++ 35 :: x) (hx : (35 : UInt8) ∉ x) : c = conL i n d := by
  have h1 := h.2
  unfold chunkL at h1
  rw [List.append_assoc, hs] at h1
  have := cksum_in (conL i n d)
  exact (last_unique (p := conL i n d) (r := Lib.itoa (cksum (conL i n d))) (by simpa using h1) (itoa_no (by omega) (by decide)) hx).1.symm
/-- a chunk's content parts at the first / and the first : behind -/
theorem con_parts {i n : Int} {d p t v : List UInt8} (h : okK i n d) (hs : conL i n d = p ++ 47 :: (t ++ 58 :: v)) (hp : (47 : UInt8) ∉ p) (ht : (58 : UInt8) ∉ t) : p = Lib.itoa i ∧ t = Lib.itoa n ∧ v = d := by
  obtain ⟨h0, h1, h2, h3⟩ := h
  unfold conL at hs
  simp only [List.append_assoc, List.cons_append, List.nil_append] at hs
  obtain ⟨rfl, e⟩ := first_unique hs (itoa_no h0 (by decide)) hp
  obtain ⟨rfl, rfl⟩ := first_unique e (no58 (by omega)) ht
  exact ⟨rfl, rfl, rfl⟩
theorem con_has {i n : Int} {d : List UInt8} : conL i n d = Lib.itoa i ++ 47 :: (Lib.itoa n ++ 58 :: d) := by unfold conL; simp
theorem Reads.form {s : List UInt8} {i n : Int} {d : List UInt8} (h : Reads s i n d) : s = Lib.itoa i ++ 47 :: (Lib.itoa n ++ 58 :: (d ++ 35 :: Lib.itoa (cksum (conL i n d)))) := by
  rw [← h.2]
  unfold chunkL
  rw [con_has]
  simp
theorem Reads.parts {s : List UInt8} {i n : Int} {d p t v x : List UInt8} (h : Reads s i n d) (hs : s = p ++ 47 :: (t ++ 58 :: (v ++ 35 :: x))) (hp : (47 : UInt8) ∉ p) (ht : (58 : UInt8) ∉ t) (hx : (35 : UInt8) ∉ x) : p = Lib.itoa i ∧ t = Lib.itoa n ∧ v = d := by
  have h1 := h.last (c := p ++ 47 :: (t ++ 58 :: v)) (by rw [hs]; simp) hx
  exact con_parts h.1 h1.symm hp ht
theorem itoa_inj {i j : Int} (h0 : 0 ≤ i) (h1 : i ≤ 40) (h2 : 0 ≤ j) (h3 : j ≤ 40) (h : Lib.itoa i = Lib.itoa j) : i = j := by
  have a := (par_itoa h0 (by omega)).2
  rw [h, (par_itoa h2 (by omega)).2] at a
  exact a.symm
theorem Reads.unique {s : List UInt8} {i n i' n' : Int} {d d' : List UInt8} (h : Reads s i n d) (h' : Reads s i' n' d') : i = i' ∧ n = n' ∧ d = d' := by
  have hc := cksum_in (conL i n d)
  obtain ⟨e1, e2, e3⟩ := h'.parts h.form (itoa_no h.1.1 (by decide)) (no58 (by have := h.1; unfold okK at this; omega)) (itoa_no (by omega) (by decide))
  have a := h.1
  have b := h'.1
  unfold okK at a b
  exact ⟨itoa_inj (by omega) (by omega) (by omega) (by omega) e1, itoa_inj (by omega) (by omega) (by omega) (by omega) e2, e3⟩
/-- what the text s says: index, number of parts, data, whether it is a chunk -/
noncomputable def readC (s : List UInt8) : Int × Int × List UInt8 × Bool := open Classical in
  if h : ∃ x : Int × Int × List UInt8, Reads s x.1 x.2.1 x.2.2 then ((Classical.choose h).1, (Classical.choose h).2.1, (Classical.choose h).2.2, true) else (0, 0, [], false)
theorem readC_yes {s : List UInt8} {i n : Int} {d : List UInt8} (h : Reads s i n d) : readC s = (i, n, d, true) := by
  have hex : ∃ x : Int × Int × List UInt8, Reads s x.1 x.2.1 x.2.2 := ⟨(i, n, d), h⟩
  unfold readC
  rw [dif_pos hex]
  obtain ⟨e1, e2, e3⟩ := (Classical.choose_spec hex).unique h
  rw [e1, e2, e3]
theorem readC_no {s : List UInt8} (h : ∀ i n d, ¬ Reads s i n d) : readC s = (0, 0, [], false) := by
  unfold readC
  rw [dif_neg (fun ⟨x, hx⟩ => h _ _ _ hx)]
theorem readC_cases (s : List UInt8) : (readC s = (0, 0, [], false) ∧ ∀ i n d, ¬ Reads s i n d) ∨ ∃ i n d, Reads s i n d ∧ readC s = (i, n, d, true) := by
  by_cases h : ∃ x : Int × Int × List UInt8, Reads s x.1 x.2.1 x.2.2
  · obtain ⟨⟨i, n, d⟩, h⟩ := h
    exact .inr ⟨i, n, d, h, readC_yes h⟩
  · have h' : ∀ i n d, ¬ Reads s i n d := fun i n d hr => h ⟨(i, n, d), hr⟩
    exact .inl ⟨readC_no h', h'⟩
/-- the text read at given places, as both programs do: where the numbers' texts are p and t, the data v -/
theorem reads_at {s p t v x : List UInt8} (hs : s = p ++ 47 :: (t ++ 58 :: (v ++ 35 :: x))) (hp : (47 : UInt8) ∉ p) (ht : (58 : UInt8) ∉ t) (hx : (35 : UInt8) ∉ x) {i n : Int} {d : List UInt8} (h : Reads s i n d) : numL p = i ∧ numL t = n ∧ v = d ∧ parOk p = true ∧ parN p = i ∧ parOk t = true ∧ parN t = n := by
  obtain ⟨rfl, rfl, rfl⟩ := h.parts hs hp ht hx
  have a := h.1
  unfold okK at a
  have h1 := par_itoa (n := i) (by omega) (by omega)
  have h2 := par_itoa (n := n) (by omega) (by omega)
  exact ⟨num_itoa (by omega) (by omega), num_itoa (by omega) (by omega), rfl, h1.1, h1.2, h2.1, h2.2⟩
theorem reads_no47 {s : List UInt8} (h : (47 : UInt8) ∉ s) : readC s = (0, 0, [], false) := readC_no fun i n d hr => h (by rw [hr.form]; simp)
theorem reads_no58 {s p r : List UInt8} (hs : s = p ++ 47 :: r) (hp : (47 : UInt8) ∉ p) (h : (58 : UInt8) ∉ r) : readC s = (0, 0, [], false) := readC_no fun i n d hr => h (by
  have e := hr.form
  rw [hs] at e
  rw [(first_unique e hp (itoa_no hr.1.1 (by decide))).2]; simp)
theorem reads_no35 {s p t u : List UInt8} (hs : s = p ++ 47 :: (t ++ 58 :: u)) (hp : (47 : UInt8) ∉ p) (ht : (58 : UInt8) ∉ t) (h : (35 : UInt8) ∉ u) : readC s = (0, 0, [], false) := readC_no fun i n d hr => h (by
  have e := hr.form
  rw [hs] at e
  have a := hr.1
  unfold okK at a
  obtain ⟨_, e2⟩ := first_unique e hp (itoa_no a.1 (by decide))
  rw [(first_unique e2 ht (no58 (by omega))).2]; simp)
end Go.Proofs.YtibpajlfcknegaaDoor.kit
