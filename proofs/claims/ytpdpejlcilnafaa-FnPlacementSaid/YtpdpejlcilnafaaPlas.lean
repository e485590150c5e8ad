/-
  Rows of the struct Place: how a slice of them reads as a list; a row of the call's own. Written by tools/gen_rows.py.
-/
import Derived.Test.YtpdpejlcilnafaaInts
import Derived.Test.YtpdpejlcilnafaaStructs
import Derived.Test.YtpdpejlcilnafaaRowB
import Derived.Deep.Slices
import Derived.Deep.Strs
import Derived.Lib.SmallJoins
namespace Go.Proofs.Ytpdpejlcilnafaa.kit
open Go.ChangeShapes Go.WideShapes Go.ChangeAt Go.RowKit Go.Deep Go.Joins
set_option linter.unusedVariables false

structure Pla where
  r : Int
  c : Int
  l : Int
theorem Pla.ext' {x y : Pla} (h0 : x.r = y.r) (h1 : x.c = y.c) (h2 : x.l = y.l) : x = y := by
  cases x; cases y; simp only at h0 h1 h2; subst h0 h1 h2; rfl
instance : DecidableEq Pla := fun x y => decidable_of_iff (x.r = y.r ∧ x.c = y.c ∧ x.l = y.l) ⟨fun h => Pla.ext' h.1 h.2.1 h.2.2, fun h => by subst h; exact ⟨rfl, rfl, rfl⟩⟩
instance : Inhabited Pla := ⟨⟨0, 0, 0⟩⟩
def z0Q : Pla := ⟨0, 0, 0⟩
abbrev plaC (x : Pla) : List Value := [.int .i64 x.r, .int .i64 x.c, .int .i64 x.l]
abbrev plaV (x : Pla) : Value := .agg #[.int .i64 x.r, .int .i64 x.c, .int .i64 x.l]
def cellsQ (l : List Pla) : List Value := l.flatMap plaC
/-- the j-th one -/
def gQ (l : List Pla) (j : Nat) : Pla := l.getD j z0Q
theorem cellsQ_nil : cellsQ [] = [] := rfl
theorem cellsQ_cons (x : Pla) (l : List Pla) : cellsQ (x :: l) = plaC x ++ cellsQ l := rfl
theorem cellsQ_app (l m : List Pla) : cellsQ (l ++ m) = cellsQ l ++ cellsQ m := by simp [cellsQ]
theorem cellsQ_len (l : List Pla) : (cellsQ l).length = l.length * 3 := by
  induction l with
  | nil => rfl
  | cons x l ih => rw [cellsQ_cons, List.length_append, ih]; simp; omega
theorem cellsQ_at (l : List Pla) (j : Nat) (hj : j < l.length) (k : Nat) (hk : k < 3) : (cellsQ l)[j * 3 + k]? = (plaC (gQ l j))[k]? := by
  induction l generalizing j with
  | nil => simp at hj
  | cons x l ih =>
    rw [cellsQ_cons]
    cases j with
    | zero => rw [List.getElem?_append_left (by simpa using hk)]; simp [gQ]
    | succ j =>
      rw [List.getElem?_append_right (by simp; omega)]
      have e : (j + 1) * 3 + k - (plaC x).length = j * 3 + k := by simp; omega
      rw [e, ih j (by simpa using hj)]
      simp [gQ]
theorem gQ_mem {l : List Pla} {j : Nat} (h : j < l.length) : gQ l j ∈ l := by simp [gQ, List.getD, h]
theorem gQ_eq {l : List Pla} {j : Nat} (h : j < l.length) : gQ l j = l[j] := by simp [gQ, List.getD, h]
theorem gQ_take {l : List Pla} {n j : Nat} (h : j < n) : gQ (l.take n) j = gQ l j := by simp [gQ, List.getD, h]
theorem take_snocQ (l : List Pla) (k : Nat) (h : k < l.length) : l.take (k + 1) = l.take k ++ [gQ l k] := by
  rw [List.take_succ_eq_append_getElem h, gQ_eq h]
theorem pla_forall {l : List Pla} {p : Pla → Prop} : (∀ x ∈ l, p x) ↔ ∀ j, j < l.length → p (gQ l j) := by
  constructor
  · intro h j hj; exact h _ (gQ_mem hj)
  · intro h x hx
    obtain ⟨j, hj, rfl⟩ := List.getElem_of_mem hx
    rw [← gQ_eq hj]; exact h j hj

/-- the cells of one from place o of block g on -/
structure PlaAt (w : World) (g o : Nat) (x : Pla) : Prop where
  c0 : w.cell? ⟨g, o, none⟩ = some (.int .i64 x.r)
  c1 : w.cell? ⟨g, o + 1, none⟩ = some (.int .i64 x.c)
  c2 : w.cell? ⟨g, o + 2, none⟩ = some (.int .i64 x.l)
theorem PlaAt.below {w w' : World} {g o : Nat} {x : Pla} {B : Nat} (h : PlaAt w g o x) (hb : Below B w w') (hB : g < B) : PlaAt w' g o x :=
  ⟨(hb.cell (p := ⟨g, o, none⟩) hB).trans h.c0, (hb.cell (p := ⟨g, o + 1, none⟩) hB).trans h.c1, (hb.cell (p := ⟨g, o + 2, none⟩) hB).trans h.c2⟩
theorem PlaAt.drewN {w : World} {g o : Nat} {x : Pla} (h : PlaAt w g o x) (q : Nat) : PlaAt (w.drewN q) g o x := ⟨h.c0, h.c1, h.c2⟩
/-- the address a leads to the list l -/
def AtQ (w : World) (a : Option Addr) (l : List Pla) : Prop := ∀ j, j < l.length → ∃ g o : Nat, a = some ⟨g, o, none⟩ ∧ g < w.heap.size ∧ PlaAt w g (o + j * 3) (gQ l j)
theorem AtQ.nil (w : World) (a : Option Addr) : AtQ w a [] := fun j h => by simp at h
theorem AtQ.below {w w' : World} {a : Option Addr} {l : List Pla} {B : Nat} (h : AtQ w a l) (hb : Below B w w') (hB : ∀ x : Addr, a = some x → 0 < l.length → x.block < B) : AtQ w' a l := fun j hj => by
  obtain ⟨g, o, hx, hlt, hc⟩ := h j hj
  have hxB := hB _ hx (by omega)
  exact ⟨g, o, hx, Nat.lt_of_lt_of_le hlt hb.size, hc.below hb hxB⟩
theorem AtQ.later {w w' : World} {a : Option Addr} {l : List Pla} (h : AtQ w a l) (hb : Below w.heap.size w w') : AtQ w' a l :=
  h.below hb (fun x hx h0 => by obtain ⟨g, o, hx', hlt, _⟩ := h 0 h0; rw [hx] at hx'; cases hx'; exact hlt)
theorem AtQ.take {w : World} {a : Option Addr} {l : List Pla} (h : AtQ w a l) (n : Nat) : AtQ w a (l.take n) := fun j hj => by
  rw [List.length_take] at hj
  rw [gQ_take (by omega)]
  exact h j (by omega)
theorem atQ_low {w : World} {a : Option Addr} {l : List Pla} (h : AtQ w a l) : ∀ x : Addr, a = some x → 0 < l.length → x.block < w.heap.size := fun x hx h0 => by
  obtain ⟨g, o, hx', hlt, _⟩ := h 0 h0
  rw [hx] at hx'; cases hx'; exact hlt
section
variable {H : Type} {enc : TypeId × Value → H} {w : World} {base : Nat} {spare : Nat → Bool} {held : Bool}
set_option maxRecDepth 100000 in
theorem cells_pla {n : Nat} {cs : List Value} {x : DataW H × List MemPlace} (h : DataW.trod enc Try.prog w base spare held n 68 cs = some x) : ∃ s : Pla, cs = plaC s := by
  obtain ⟨ys, n, _, rfl, hl, hlen, hf⟩ := DataW.trod_struct Try.underlying68 h
  have ki : Try.prog.cellsOf 3 = 1 := by kernel_rfl
  have kt : Try.prog.cellsOf 68 = 3 := by kernel_rfl
  rw [kt] at hl
  match cs, ys, hl, hlen with
  | [c0, c1, c2], [y0, y1, y2], _, _ =>
    have h0 := hf 0 _ rfl
    have h1 := hf 1 _ rfl
    have h2 := hf 2 _ rfl
    simp [ki] at h0 h1 h2
    obtain ⟨b0, e0, _⟩ := DataW.trod_int Try.underlying3 h0
    obtain ⟨b1, e1, _⟩ := DataW.trod_int Try.underlying3 h1
    obtain ⟨b2, e2, _⟩ := DataW.trod_int Try.underlying3 h2
    simp only [List.cons.injEq, and_true] at e0 e1 e2
    subst e0
    subst e1
    subst e2
    exact ⟨⟨b0, b1, b2⟩, rfl⟩
set_option maxRecDepth 100000 in
/-- a slice of the law's, as cells: a list that its address leads to -/
theorem open_plaS {n : Nat} {c : Value} {x : DataW H × List MemPlace} (h : DataW.trod enc Try.prog w base spare held n 41 [c] = some x) (hlt : ∀ p ∈ x.2, p.block < w.heap.size) :
    ∃ (a : Option Addr) (cap : Nat) (L : List Pla), c = .slice a L.length cap ∧ AtQ w a L ∧ L.length ≤ maxLen := by
  rcases open_slice Try.underlying41 h with ⟨hcs, _⟩ | ⟨a, len, cap, m, k, D, Pl, hcs, hb, hl, hm, hmm, hx, hi⟩
  · simp only [List.cons.injEq, and_true] at hcs
    exact ⟨none, 0, [], hcs, AtQ.nil _ _, by simp⟩
  · simp only [List.cons.injEq, and_true] at hcs
    have hlm : len ≤ m := by rw [hmm]; split <;> omega
    have ks : Try.prog.cellsOf 68 = 3 := by kernel_rfl
    by_cases h0 : len = 0
    · subst h0
      exact ⟨some a, cap, [], hcs, AtQ.nil _ _, by simp⟩
    have ha : a = ⟨a.block, a.off, none⟩ := by
      obtain ⟨cs', h1, h2⟩ := hi 0 (by omega)
      rw [ks] at h1
      obtain ⟨_, hlen, hcell⟩ := World.cells?_some h1
      obtain ⟨s, rfl⟩ := cells_pla h2
      have := hcell 0 (by omega)
      rw [Nat.zero_mul, add_zero', add_zero'] at this
      exact spot_none this
    have hex : ∀ i, i < m → ∃ s : Pla, PlaAt w a.block (a.off + i * 3) s := fun i him => by
      obtain ⟨cs', h1, h2⟩ := hi i him
      rw [ks] at h1
      obtain ⟨_, hlen, hcell⟩ := World.cells?_some h1
      obtain ⟨s, rfl⟩ := cells_pla h2
      rw [ha] at hcell
      simp only [add_mk] at hcell
      exact ⟨s, ⟨hcell 0 (by omega), hcell 1 (by omega), hcell 2 (by omega)⟩⟩
    obtain ⟨q, hq⟩ := choose_lt (α := Pla) hex
    refine ⟨some a, cap, (List.range len).map q, by rw [hcs]; simp, fun j hj => ?_, by simp; omega⟩
    have hj' : j < len := by simpa using hj
    have hs : gQ ((List.range len).map q) j = q j := by simp [gQ, List.getD, hj']
    have h1 := hq j (by omega)
    exact ⟨a.block, a.off, by rw [← ha], World.block_lt_of_cell? w ⟨a.block, a.off + j * 3, none⟩ h1.c0, by rw [hs]; exact h1⟩
set_option maxRecDepth 100000 in
/-- one of them, by value -/
theorem open_plaW {r : Reach} {b0 : Nat} {v : Value} {d : DataW H} {p : List MemPlace} (hv : Value.okWide Try.prog w r b0 68 v) (h : DataW.Trod enc Try.prog w base spare held 68 v d p) :
    ∃ (xr : Int) (xc : Int) (xl : Int), v = .agg #[.int .i64 xr, .int .i64 xc, .int .i64 xl] := by
  obtain ⟨cs, rfl, hsz⟩ := okWide_struct Try.underlying68 hv
  obtain ⟨fuel, hf⟩ := h
  obtain ⟨s, hs⟩ := cells_pla hf
  obtain ⟨xr, xc, xl⟩ := s
  refine ⟨xr, xc, xl, ?_⟩
  have e : cs = (plaC ⟨xr, xc, xl⟩).toArray := by rw [← hs]; simp [Value.cells]
  rw [e]
/-- .. handed in -/
theorem open_plaV {v : Value} {d : DataW H} {p : List MemPlace} (h : DataW.Trod enc Try.prog w base spare held 41 v d p) (hlt : ∀ x ∈ p, x.block < w.heap.size) (hv : v.cells.toList = [v]) :
    ∃ (a : Option Addr) (cap : Nat) (L : List Pla), v = .slice a L.length cap ∧ AtQ w a L ∧ L.length ≤ maxLen := by
  obtain ⟨fuel, hf⟩ := h
  rw [hv] at hf
  exact open_plaS hf hlt
end
/-- the slice value v is the call's own row of the list l -/
def OwnQ (base : Nat) (w : World) (v : Value) (l : List Pla) : Prop := w.ownsRow base 61 3 v l.length (cellsQ l)
theorem OwnQ.row {base : Nat} {w : World} {v : Value} {l : List Pla} (h : OwnQ base w v l) : w.ownsRow base 61 3 v l.length (cellsQ l) := h
theorem plaAt_of {w : World} {g j : Nat} {s : Pla} (h : ∀ k, k < 3 → w.cell? ⟨g, j + k, none⟩ = (plaC s)[k]?) : PlaAt w g j s :=
  ⟨h 0 (by omega), h 1 (by omega), h 2 (by omega)⟩
theorem OwnQ.at {base : Nat} {w : World} {g cap : Nat} {l : List Pla} (h : OwnQ base w (.slice (some ⟨g, 0, none⟩) l.length cap) l) (j : Nat) (hj : j < l.length) : PlaAt w g (j * 3) (gQ l j) :=
  plaAt_of (fun k hk => by rw [h.row.cellAt (j * 3 + k) (by omega)]; exact cellsQ_at l j hj k hk)
theorem OwnQ.form {base : Nat} {w : World} {v : Value} {l : List Pla} (h : OwnQ base w v l) : ∃ a cap, v = .slice a l.length cap ∧ l.length ≤ cap ∧ cap ≤ maxLen ∧ AtQ w a l ∧ (∀ x, a = some x → base ≤ x.block ∧ x.block < w.heap.size) := by
  rcases h.2 with ⟨rfl, h0⟩ | ⟨g, c, cur, rfl, hg, hh, hn, hm, _⟩
  · obtain rfl := List.eq_nil_of_length_eq_zero h0
    exact ⟨none, 0, rfl, Nat.le_refl _, Nat.zero_le _, AtQ.nil _ _, fun x hx => by cases hx⟩
  · have hlt : g < w.heap.size := (Array.getElem?_eq_some_iff.1 hh).1
    exact ⟨_, _, rfl, hn, hm, fun j hj => ⟨g, 0, rfl, hlt, by rw [Nat.zero_add]; exact h.at j hj⟩, fun x hx => by cases hx; exact ⟨hg, hlt⟩⟩
theorem OwnQ.shape {base : Nat} {w : World} {v : Value} {l : List Pla} (h : OwnQ base w v l) : ∃ a c, v = .slice a l.length c := by obtain ⟨a, c, h1, _⟩ := h.form; exact ⟨a, c, h1⟩
theorem OwnQ.there {base : Nat} {w : World} {v : Value} {l : List Pla} (h : OwnQ base w v l) (h0 : 0 < l.length) : ∃ g cap, v = .slice (some ⟨g, 0, none⟩) l.length cap ∧ l.length ≤ cap ∧ cap ≤ maxLen ∧ base ≤ g ∧ g < w.heap.size := by
  rcases h.2 with ⟨rfl, h1⟩ | ⟨g, c, cur, rfl, hg, hh, hn, hm, _⟩
  · omega
  · exact ⟨g, c, rfl, hn, hm, hg, (Array.getElem?_eq_some_iff.1 hh).1⟩
theorem OwnQ.mono {base base' : Nat} {w : World} {v : Value} {l : List Pla} (h : OwnQ base w v l) (hb : base' ≤ base) : OwnQ base' w v l :=
  ⟨h.1, h.2.imp id (fun ⟨g, c, cur, hv, hg, r⟩ => ⟨g, c, cur, hv, by omega, r⟩)⟩
theorem OwnQ.later {base : Nat} {w w' : World} {v : Value} {l : List Pla} (h : OwnQ base w v l) (hb : Below w.heap.size w w') : OwnQ base w' v l :=
  ⟨h.1, h.2.imp id (fun ⟨g, c, cur, hv, hg, hh, r⟩ => ⟨g, c, cur, hv, hg, (hb.block g (Array.getElem?_eq_some_iff.1 hh).1).trans hh, r⟩)⟩
theorem OwnQ.of {base : Nat} {w : World} {v : Value} {l : List Pla} {n : Nat} {cs : List Value} (h : w.ownsRow base 61 3 v n cs) (hc : cs = cellsQ l) : OwnQ base w v l := by
  subst hc
  have hn : n = l.length := by have := h.1; rw [cellsQ_len] at this; omega
  subst hn
  exact h
theorem OwnQ.block {base : Nat} {w : World} {v : Value} {l : List Pla} (h : OwnQ base w v l) : ∀ g, v.ownBlock = some g → base ≤ g ∧ g < w.heap.size := h.row.lt
theorem OwnQ.marked {base : Nat} {w w' : World} {v u : Value} {l : List Pla} (h : OwnQ base w u l) (hg : w.grownBy w' v.ownBlock) (hne : ∀ g, v.ownBlock = some g → u.ownBlock = some g → False) : OwnQ base w' u l := by
  refine h.row.kept hg ?_
  cases hu : u.ownBlock with
  | none => exact .inl rfl
  | some g => exact .inr fun e => hne g e.symm hu
theorem OwnQ.setBelow {base : Nat} {w : World} {v : Value} {l : List Pla} (h : OwnQ base w v l) {a : Addr} (ha : a.block < base) (u : Value) : OwnQ base (w.setCell a u) v l := ownsRow_setCell_below h ha u
theorem ownQ_new (w : World) (base : Nat) (h : base ≤ w.heap.size) : OwnQ base (w.alloc (.cells #[] 61)) (.slice (some ⟨w.heap.size, 0, none⟩) 0 0) [] := World.ownsRow_lit w #[] 0 h (by unfold maxLen; omega) rfl
theorem infoQ : (Try.prog.info? 61).map (fun i => (i.zero, i.size, i.bytes)) = some (some (.agg #[.int .i64 0, .int .i64 0, .int .i64 0]), 3, 24) := by kernel_rfl
end Go.Proofs.Ytpdpejlcilnafaa.kit
