/-
  Structs of numbers and booleans as arguments: opened to their fields, and shut again.
-/
import Derived.Test.YtgjebjoaemeeoaaKit
import Derived.Lib.SmallJoins
import Derived.Deep.Fields
namespace Go.Proofs.Ytgjebjoaemeeoaa.kit
open Go.ChangeShapes Go.WideShapes Go.ChangeAt Go.RowKit Go.Joins Go.Deep
/-- behind a call that makes memory: all old cells and marks read as before -/
theorem bcell {W w1 : World} (hb : Below W.heap.size W w1) : (∀ b o, b < W.heap.size → w1.cell? ⟨b, o, none⟩ = W.cell? ⟨b, o, none⟩) ∧ (∀ b o, b < W.heap.size → w1.frozen? ⟨b, o, none⟩ = W.frozen? ⟨b, o, none⟩) :=
  ⟨fun b o h => hb.cell (p := ⟨b, o, none⟩) h, fun b o h => hb.frozen (p := ⟨b, o, none⟩) h⟩

/-- .. and what is a block stays one (a rule that the walk's simp can chain) -/
theorem bsize {W w1 : World} (hb : Below W.heap.size W w1) : ∀ b, b < W.heap.size → b < w1.heap.size := fun _ h => Nat.lt_of_lt_of_le h hb.size

section
variable {H : Type} {enc : TypeId × Value → H} {P : Program} {w : World} {base : Nat} {spare : Nat → Bool} {held : Bool}

/-- any struct of one-cell fields: as many cells, as many data -/
theorem openFields {r : Reach} {b0 : Nat} {t : TypeId} {fs : Array Field} {v : Value} {d : DataW H} {p : List MemPlace} (hs : P.underlying t = some (.struct fs)) (hone : oneCellFields P fs = true) (hC : P.cellsOf t = fs.size)
    (hv : Value.okWide P w r b0 t v) (h : DataW.Trod enc P w base spare held t v d p) :
    ∃ (cs : List Value) (ys : List (DataW H × List MemPlace)) (n : Nat), v = .agg cs.toArray ∧ cs.length = fs.size ∧ ys.length = fs.size ∧ d = .agg (ys.map (·.1)) ∧ p = ys.flatMap (·.2) ∧
      ∀ (j : Nat) (f : Field) (c : Value), fs[j]? = some f → cs[j]? = some c → DataW.trod enc P w base spare held n f.type [c] = ys[j]? := by
  obtain ⟨⟨cs⟩, rfl, hsz⟩ := okWide_struct hs hv
  obtain ⟨fuel, hf⟩ := h
  obtain ⟨ys, n, _, hx, _, hlen, hg⟩ := DataW.trod_struct hs hf
  simp only [Prod.mk.injEq] at hx
  refine ⟨cs, ys, n, rfl, by simpa using hsz.trans hC, hlen, hx.1, hx.2, fun j f c hj hc => ?_⟩
  obtain ⟨ho, hk⟩ := hone_of hone j f hj
  have h1 := hg j f hj
  rw [ho, hk] at h1
  rw [← h1]
  congr 1
  obtain ⟨hl, he⟩ := List.getElem?_eq_some_iff.1 hc
  simp only [Value.cells]
  rw [List.drop_eq_getElem_cons hl, he]
  rfl

/-- six ints -/
theorem open_six {r : Reach} {b0 : Nat} {t e : TypeId} {f0 f1 f2 f3 f4 f5 : Field} {v : Value} {d : DataW H} {p : List MemPlace} (hs : P.underlying t = some (.struct #[f0, f1, f2, f3, f4, f5])) (hone : oneCellFields P #[f0, f1, f2, f3, f4, f5] = true) (hC : P.cellsOf t = 6)
    (he : P.underlying e = some (.int .i64)) (ht : ∀ f ∈ [f0, f1, f2, f3, f4, f5], f.type = e)
    (hv : Value.okWide P w r b0 t v) (h : DataW.Trod enc P w base spare held t v d p) :
    ∃ a0 a1 a2 a3 a4 a5 : Int, v = .agg #[.int .i64 a0, .int .i64 a1, .int .i64 a2, .int .i64 a3, .int .i64 a4, .int .i64 a5] ∧
      d = .agg [.lit (.int .i64 a0), .lit (.int .i64 a1), .lit (.int .i64 a2), .lit (.int .i64 a3), .lit (.int .i64 a4), .lit (.int .i64 a5)] ∧ p = [] ∧
      ((Lit.int .i64 a0).wf = true ∧ (Lit.int .i64 a1).wf = true ∧ (Lit.int .i64 a2).wf = true ∧ (Lit.int .i64 a3).wf = true ∧ (Lit.int .i64 a4).wf = true ∧ (Lit.int .i64 a5).wf = true) := by
  obtain ⟨cs, ys, n, rfl, hc, hy, hd, hp, hf⟩ := openFields hs hone hC hv h
  match cs, ys, hc, hy with
  | [c0, c1, c2, c3, c4, c5], [y0, y1, y2, y3, y4, y5], _, _ =>
    have h0 := hf 0 f0 c0 rfl rfl
    have h1 := hf 1 f1 c1 rfl rfl
    have h2 := hf 2 f2 c2 rfl rfl
    have h3 := hf 3 f3 c3 rfl rfl
    have h4 := hf 4 f4 c4 rfl rfl
    have h5 := hf 5 f5 c5 rfl rfl
    rw [ht _ (by simp)] at h0 h1 h2 h3 h4 h5
    obtain ⟨a0, e0, x0, w0⟩ := DataW.trod_int he h0
    obtain ⟨a1, e1, x1, w1⟩ := DataW.trod_int he h1
    obtain ⟨a2, e2, x2, w2⟩ := DataW.trod_int he h2
    obtain ⟨a3, e3, x3, w3⟩ := DataW.trod_int he h3
    obtain ⟨a4, e4, x4, w4⟩ := DataW.trod_int he h4
    obtain ⟨a5, e5, x5, w5⟩ := DataW.trod_int he h5
    simp only [List.cons.injEq, and_true] at e0 e1 e2 e3 e4 e5
    subst e0 e1 e2 e3 e4 e5 x0 x1 x2 x3 x4 x5
    exact ⟨a0, a1, a2, a3, a4, a5, rfl, by simpa using hd, by simpa using hp, w0, w1, w2, w3, w4, w5⟩

theorem shut_six {t e : TypeId} {f0 f1 f2 f3 f4 f5 : Field} {a0 a1 a2 a3 a4 a5 : Int} (hs : P.underlying t = some (.struct #[f0, f1, f2, f3, f4, f5])) (hone : oneCellFields P #[f0, f1, f2, f3, f4, f5] = true) (hC : P.cellsOf t = 6)
    (he : P.underlying e = some (.int .i64)) (ht : ∀ f ∈ [f0, f1, f2, f3, f4, f5], f.type = e)
    (hw : (Lit.int .i64 a0).wf = true ∧ (Lit.int .i64 a1).wf = true ∧ (Lit.int .i64 a2).wf = true ∧ (Lit.int .i64 a3).wf = true ∧ (Lit.int .i64 a4).wf = true ∧ (Lit.int .i64 a5).wf = true) :
    DataW.Trod enc P w base spare held t (.agg #[.int .i64 a0, .int .i64 a1, .int .i64 a2, .int .i64 a3, .int .i64 a4, .int .i64 a5])
      (.agg [.lit (.int .i64 a0), .lit (.int .i64 a1), .lit (.int .i64 a2), .lit (.int .i64 a3), .lit (.int .i64 a4), .lit (.int .i64 a5)]) [] := by
  obtain ⟨w0, w1, w2, w3, w4, w5⟩ := hw
  obtain ⟨o0, k0⟩ := hone_of hone 0 f0 rfl
  obtain ⟨o1, k1⟩ := hone_of hone 1 f1 rfl
  obtain ⟨o2, k2⟩ := hone_of hone 2 f2 rfl
  obtain ⟨o3, k3⟩ := hone_of hone 3 f3 rfl
  obtain ⟨o4, k4⟩ := hone_of hone 4 f4 rfl
  obtain ⟨o5, k5⟩ := hone_of hone 5 f5 rfl
  have hm : ∀ (f : Field) (a : Int), f ∈ [f0, f1, f2, f3, f4, f5] → (Lit.int .i64 a).wf = true → DataW.trod enc P w base spare held 1 f.type [.int .i64 a] = some (.lit (.int .i64 a), []) :=
    fun f a hf ha => by rw [ht f hf]; exact trod_int_mk 0 he ha
  have ts := trod_struct_mk (enc := enc) (w := w) (base := base) (spare := spare) (held := held) (n := 1) (cs := [.int .i64 a0, .int .i64 a1, .int .i64 a2, .int .i64 a3, .int .i64 a4, .int .i64 a5])
    (xs := [(.lit (.int .i64 a0), []), (.lit (.int .i64 a1), []), (.lit (.int .i64 a2), []), (.lit (.int .i64 a3), []), (.lit (.int .i64 a4), []), (.lit (.int .i64 a5), [])]) hs (by simp [hC])
    (by simp [o0, o1, o2, o3, o4, o5, k0, k1, k2, k3, k4, k5, hm f0 a0 (by simp) w0, hm f1 a1 (by simp) w1, hm f2 a2 (by simp) w2, hm f3 a3 (by simp) w3, hm f4 a4 (by simp) w4, hm f5 a5 (by simp) w5])
  exact ⟨_, by simpa [Value.cells] using ts⟩

/-- a bool and an int -/
theorem open_boolint {r : Reach} {b0 : Nat} {t tb e : TypeId} {f0 f1 : Field} {v : Value} {d : DataW H} {p : List MemPlace} (hs : P.underlying t = some (.struct #[f0, f1])) (hone : oneCellFields P #[f0, f1] = true) (hC : P.cellsOf t = 2)
    (hb : P.underlying tb = some .bool) (he : P.underlying e = some (.int .i64)) (ht0 : f0.type = tb) (ht1 : f1.type = e)
    (hv : Value.okWide P w r b0 t v) (h : DataW.Trod enc P w base spare held t v d p) :
    ∃ (b : Bool) (a : Int), v = .agg #[.bool b, .int .i64 a] ∧ d = .agg [.lit (.bool b), .lit (.int .i64 a)] ∧ p = [] ∧ (Lit.int .i64 a).wf = true := by
  obtain ⟨cs, ys, n, rfl, hc, hy, hd, hp, hf⟩ := openFields hs hone hC hv h
  match cs, ys, hc, hy with
  | [c0, c1], [y0, y1], _, _ =>
    have h0 := hf 0 f0 c0 rfl rfl
    have h1 := hf 1 f1 c1 rfl rfl
    rw [ht0] at h0
    rw [ht1] at h1
    obtain ⟨b, e0, x0⟩ := DataW.trod_bool hb h0
    obtain ⟨a, e1, x1, w1⟩ := DataW.trod_int he h1
    simp only [List.cons.injEq, and_true] at e0 e1
    subst e0 e1 x0 x1
    exact ⟨b, a, rfl, by simpa using hd, by simpa using hp, w1⟩

theorem shut_boolint {t tb e : TypeId} {f0 f1 : Field} {b : Bool} {a : Int} (hs : P.underlying t = some (.struct #[f0, f1])) (hone : oneCellFields P #[f0, f1] = true) (hC : P.cellsOf t = 2)
    (hb : P.underlying tb = some .bool) (he : P.underlying e = some (.int .i64)) (ht0 : f0.type = tb) (ht1 : f1.type = e) (hw : (Lit.int .i64 a).wf = true) :
    DataW.Trod enc P w base spare held t (.agg #[.bool b, .int .i64 a]) (.agg [.lit (.bool b), .lit (.int .i64 a)]) [] := by
  obtain ⟨o0, k0⟩ := hone_of hone 0 f0 rfl
  obtain ⟨o1, k1⟩ := hone_of hone 1 f1 rfl
  have h0 : DataW.trod enc P w base spare held 1 f0.type [.bool b] = some (.lit (.bool b), []) := by rw [ht0]; simp [DataW.trod, hb]
  have h1 : DataW.trod enc P w base spare held 1 f1.type [.int .i64 a] = some (.lit (.int .i64 a), []) := by rw [ht1]; exact trod_int_mk 0 he hw
  have ts := trod_struct_mk (enc := enc) (w := w) (base := base) (spare := spare) (held := held) (n := 1) (cs := [.bool b, .int .i64 a])
    (xs := [(.lit (.bool b), []), (.lit (.int .i64 a), [])]) hs (by simp [hC]) (by simp [o0, o1, k0, k1, h0, h1])
  exact ⟨_, by simpa [Value.cells] using ts⟩
end
end Go.Proofs.Ytgjebjoaemeeoaa.kit
