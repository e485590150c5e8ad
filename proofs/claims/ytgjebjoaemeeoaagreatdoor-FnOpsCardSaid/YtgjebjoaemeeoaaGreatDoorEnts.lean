/-
  Rows of the struct Entry: how a slice of them reads as a list; a row of the call's own. Written by tools/gen_rows.py.
-/
import Derived.Test.YtgjebjoaemeeoaaGreatDoorInts
import Derived.Test.YtgjebjoaemeeoaaGreatDoorStructs
import Derived.Test.YtgjebjoaemeeoaaGreatDoorMach
import Derived.Test.YtgjebjoaemeeoaaGreatDoorS3Plain
import Derived.Deep.Slices
import Derived.Deep.Strs
import Derived.Lib.SmallJoins
namespace Go.Proofs.YtgjebjoaemeeoaaGreatDoor.kit
open Go.ChangeShapes Go.WideShapes Go.ChangeAt Go.RowKit Go.Deep Go.Joins
set_option linter.unusedVariables false

structure Ent where
  e : Int
  c : Int
  s : Int
  k : Int
  o : Int
  d : Int
  v : Int
theorem Ent.ext' {x y : Ent} (h0 : x.e = y.e) (h1 : x.c = y.c) (h2 : x.s = y.s) (h3 : x.k = y.k) (h4 : x.o = y.o) (h5 : x.d = y.d) (h6 : x.v = y.v) : x = y := by
  cases x; cases y; simp only at h0 h1 h2 h3 h4 h5 h6; subst h0 h1 h2 h3 h4 h5 h6; rfl
instance : DecidableEq Ent := fun x y => decidable_of_iff (x.e = y.e ∧ x.c = y.c ∧ x.s = y.s ∧ x.k = y.k ∧ x.o = y.o ∧ x.d = y.d ∧ x.v = y.v) ⟨fun h => Ent.ext' h.1 h.2.1 h.2.2.1 h.2.2.2.1 h.2.2.2.2.1 h.2.2.2.2.2.1 h.2.2.2.2.2.2, fun h => by subst h; exact ⟨rfl, rfl, rfl, rfl, rfl, rfl, rfl⟩⟩
instance : Inhabited Ent := ⟨⟨0, 0, 0, 0, 0, 0, 0⟩⟩
def z0E : Ent := ⟨0, 0, 0, 0, 0, 0, 0⟩
abbrev entC (x : Ent) : List Value := [.int .i64 x.e, .int .i64 x.c, .int .i64 x.s, .int .i64 x.k, .int .i64 x.o, .int .i64 x.d, .int .i64 x.v]
abbrev entV (x : Ent) : Value := .agg #[.int .i64 x.e, .int .i64 x.c, .int .i64 x.s, .int .i64 x.k, .int .i64 x.o, .int .i64 x.d, .int .i64 x.v]
def cellsE (l : List Ent) : List Value := l.flatMap entC
/-- the j-th one -/
def gE (l : List Ent) (j : Nat) : Ent := l.getD j z0E
theorem cellsE_nil : cellsE [] = [] := rfl
theorem cellsE_cons (x : Ent) (l : List Ent) : cellsE (x :: l) = entC x ++ cellsE l := rfl
theorem cellsE_app (l m : List Ent) : cellsE (l ++ m) = cellsE l ++ cellsE m := by simp [cellsE]
theorem cellsE_len (l : List Ent) : (cellsE l).length = l.length * 7 := by
  induction l with
  | nil => rfl
  | cons x l ih => rw [cellsE_cons, List.length_append, ih]; simp; omega
theorem cellsE_at (l : List Ent) (j : Nat) (hj : j < l.length) (k : Nat) (hk : k < 7) : (cellsE l)[j * 7 + k]? = (entC (gE l j))[k]? := by
  induction l generalizing j with
  | nil => simp at hj
  | cons x l ih =>
    rw [cellsE_cons]
    cases j with
    | zero => rw [List.getElem?_append_left (by simpa using hk)]; simp [gE]
    | succ j =>
      rw [List.getElem?_append_right (by simp; omega)]
      have e : (j + 1) * 7 + k - (entC x).length = j * 7 + k := by simp; omega
      rw [e, ih j (by simpa using hj)]
      simp [gE]
theorem gE_mem {l : List Ent} {j : Nat} (h : j < l.length) : gE l j ∈ l := by simp [gE, List.getD, h]
theorem gE_eq {l : List Ent} {j : Nat} (h : j < l.length) : gE l j = l[j] := by simp [gE, List.getD, h]
theorem gE_take {l : List Ent} {n j : Nat} (h : j < n) : gE (l.take n) j = gE l j := by simp [gE, List.getD, h]
theorem take_snocE (l : List Ent) (k : Nat) (h : k < l.length) : l.take (k + 1) = l.take k ++ [gE l k] := by
  rw [List.take_succ_eq_append_getElem h, gE_eq h]
theorem ent_forall {l : List Ent} {p : Ent → Prop} : (∀ x ∈ l, p x) ↔ ∀ j, j < l.length → p (gE l j) := by
  constructor
  · intro h j hj; exact h _ (gE_mem hj)
  · intro h x hx
    obtain ⟨j, hj, rfl⟩ := List.getElem_of_mem hx
    rw [← gE_eq hj]; exact h j hj

/-- the cells of one from place o of block g on -/
structure EntAt (w : World) (g o : Nat) (x : Ent) : Prop where
  c0 : w.cell? ⟨g, o, none⟩ = some (.int .i64 x.e)
  c1 : w.cell? ⟨g, o + 1, none⟩ = some (.int .i64 x.c)
  c2 : w.cell? ⟨g, o + 2, none⟩ = some (.int .i64 x.s)
  c3 : w.cell? ⟨g, o + 3, none⟩ = some (.int .i64 x.k)
  c4 : w.cell? ⟨g, o + 4, none⟩ = some (.int .i64 x.o)
  c5 : w.cell? ⟨g, o + 5, none⟩ = some (.int .i64 x.d)
  c6 : w.cell? ⟨g, o + 6, none⟩ = some (.int .i64 x.v)
theorem EntAt.below {w w' : World} {g o : Nat} {x : Ent} {B : Nat} (h : EntAt w g o x) (hb : Below B w w') (hB : g < B) : EntAt w' g o x :=
  ⟨(hb.cell (p := ⟨g, o, none⟩) hB).trans h.c0, (hb.cell (p := ⟨g, o + 1, none⟩) hB).trans h.c1, (hb.cell (p := ⟨g, o + 2, none⟩) hB).trans h.c2, (hb.cell (p := ⟨g, o + 3, none⟩) hB).trans h.c3, (hb.cell (p := ⟨g, o + 4, none⟩) hB).trans h.c4, (hb.cell (p := ⟨g, o + 5, none⟩) hB).trans h.c5, (hb.cell (p := ⟨g, o + 6, none⟩) hB).trans h.c6⟩
theorem EntAt.drewN {w : World} {g o : Nat} {x : Ent} (h : EntAt w g o x) (q : Nat) : EntAt (w.drewN q) g o x := ⟨h.c0, h.c1, h.c2, h.c3, h.c4, h.c5, h.c6⟩
/-- the address a leads to the list l -/
def AtE (w : World) (a : Option Addr) (l : List Ent) : Prop := ∀ j, j < l.length → ∃ g o : Nat, a = some ⟨g, o, none⟩ ∧ g < w.heap.size ∧ EntAt w g (o + j * 7) (gE l j)
theorem AtE.nil (w : World) (a : Option Addr) : AtE w a [] := fun j h => by simp at h
theorem AtE.below {w w' : World} {a : Option Addr} {l : List Ent} {B : Nat} (h : AtE w a l) (hb : Below B w w') (hB : ∀ x : Addr, a = some x → 0 < l.length → x.block < B) : AtE w' a l := fun j hj => by
  obtain ⟨g, o, hx, hlt, hc⟩ := h j hj
  have hxB := hB _ hx (by omega)
  exact ⟨g, o, hx, Nat.lt_of_lt_of_le hlt hb.size, hc.below hb hxB⟩
theorem AtE.later {w w' : World} {a : Option Addr} {l : List Ent} (h : AtE w a l) (hb : Below w.heap.size w w') : AtE w' a l :=
  h.below hb (fun x hx h0 => by obtain ⟨g, o, hx', hlt, _⟩ := h 0 h0; rw [hx] at hx'; cases hx'; exact hlt)
theorem AtE.take {w : World} {a : Option Addr} {l : List Ent} (h : AtE w a l) (n : Nat) : AtE w a (l.take n) := fun j hj => by
  rw [List.length_take] at hj
  rw [gE_take (by omega)]
  exact h j (by omega)
theorem atE_low {w : World} {a : Option Addr} {l : List Ent} (h : AtE w a l) : ∀ x : Addr, a = some x → 0 < l.length → x.block < w.heap.size := fun x hx h0 => by
  obtain ⟨g, o, hx', hlt, _⟩ := h 0 h0
  rw [hx] at hx'; cases hx'; exact hlt
/-- the slice value v is the call's own row of the list l -/
def OwnE (base : Nat) (w : World) (v : Value) (l : List Ent) : Prop := w.ownsRow base 75 7 v l.length (cellsE l)
theorem OwnE.row {base : Nat} {w : World} {v : Value} {l : List Ent} (h : OwnE base w v l) : w.ownsRow base 75 7 v l.length (cellsE l) := h
theorem entAt_of {w : World} {g j : Nat} {s : Ent} (h : ∀ k, k < 7 → w.cell? ⟨g, j + k, none⟩ = (entC s)[k]?) : EntAt w g j s :=
  ⟨h 0 (by omega), h 1 (by omega), h 2 (by omega), h 3 (by omega), h 4 (by omega), h 5 (by omega), h 6 (by omega)⟩
theorem OwnE.at {base : Nat} {w : World} {g cap : Nat} {l : List Ent} (h : OwnE base w (.slice (some ⟨g, 0, none⟩) l.length cap) l) (j : Nat) (hj : j < l.length) : EntAt w g (j * 7) (gE l j) :=
  entAt_of (fun k hk => by rw [h.row.cellAt (j * 7 + k) (by omega)]; exact cellsE_at l j hj k hk)
theorem OwnE.form {base : Nat} {w : World} {v : Value} {l : List Ent} (h : OwnE base w v l) : ∃ a cap, v = .slice a l.length cap ∧ l.length ≤ cap ∧ cap ≤ maxLen ∧ AtE w a l ∧ (∀ x, a = some x → base ≤ x.block ∧ x.block < w.heap.size) := by
  rcases h.2 with ⟨rfl, h0⟩ | ⟨g, c, cur, rfl, hg, hh, hn, hm, _⟩
  · obtain rfl := List.eq_nil_of_length_eq_zero h0
    exact ⟨none, 0, rfl, Nat.le_refl _, Nat.zero_le _, AtE.nil _ _, fun x hx => by cases hx⟩
  · have hlt : g < w.heap.size := (Array.getElem?_eq_some_iff.1 hh).1
    exact ⟨_, _, rfl, hn, hm, fun j hj => ⟨g, 0, rfl, hlt, by rw [Nat.zero_add]; exact h.at j hj⟩, fun x hx => by cases hx; exact ⟨hg, hlt⟩⟩
theorem OwnE.shape {base : Nat} {w : World} {v : Value} {l : List Ent} (h : OwnE base w v l) : ∃ a c, v = .slice a l.length c := by obtain ⟨a, c, h1, _⟩ := h.form; exact ⟨a, c, h1⟩
theorem OwnE.there {base : Nat} {w : World} {v : Value} {l : List Ent} (h : OwnE base w v l) (h0 : 0 < l.length) : ∃ g cap, v = .slice (some ⟨g, 0, none⟩) l.length cap ∧ l.length ≤ cap ∧ cap ≤ maxLen ∧ base ≤ g ∧ g < w.heap.size := by
  rcases h.2 with ⟨rfl, h1⟩ | ⟨g, c, cur, rfl, hg, hh, hn, hm, _⟩
  · omega
  · exact ⟨g, c, rfl, hn, hm, hg, (Array.getElem?_eq_some_iff.1 hh).1⟩
theorem OwnE.mono {base base' : Nat} {w : World} {v : Value} {l : List Ent} (h : OwnE base w v l) (hb : base' ≤ base) : OwnE base' w v l :=
  ⟨h.1, h.2.imp id (fun ⟨g, c, cur, hv, hg, r⟩ => ⟨g, c, cur, hv, by omega, r⟩)⟩
theorem OwnE.later {base : Nat} {w w' : World} {v : Value} {l : List Ent} (h : OwnE base w v l) (hb : Below w.heap.size w w') : OwnE base w' v l :=
  ⟨h.1, h.2.imp id (fun ⟨g, c, cur, hv, hg, hh, r⟩ => ⟨g, c, cur, hv, hg, (hb.block g (Array.getElem?_eq_some_iff.1 hh).1).trans hh, r⟩)⟩
theorem OwnE.of {base : Nat} {w : World} {v : Value} {l : List Ent} {n : Nat} {cs : List Value} (h : w.ownsRow base 75 7 v n cs) (hc : cs = cellsE l) : OwnE base w v l := by
  subst hc
  have hn : n = l.length := by have := h.1; rw [cellsE_len] at this; omega
  subst hn
  exact h
theorem OwnE.block {base : Nat} {w : World} {v : Value} {l : List Ent} (h : OwnE base w v l) : ∀ g, v.ownBlock = some g → base ≤ g ∧ g < w.heap.size := h.row.lt
theorem OwnE.marked {base : Nat} {w w' : World} {v u : Value} {l : List Ent} (h : OwnE base w u l) (hg : w.grownBy w' v.ownBlock) (hne : ∀ g, v.ownBlock = some g → u.ownBlock = some g → False) : OwnE base w' u l := by
  refine h.row.kept hg ?_
  cases hu : u.ownBlock with
  | none => exact .inl rfl
  | some g => exact .inr fun e => hne g e.symm hu
theorem OwnE.setBelow {base : Nat} {w : World} {v : Value} {l : List Ent} (h : OwnE base w v l) {a : Addr} (ha : a.block < base) (u : Value) : OwnE base (w.setCell a u) v l := ownsRow_setCell_below h ha u
theorem ownE_new (w : World) (base : Nat) (h : base ≤ w.heap.size) : OwnE base (w.alloc (.cells #[] 75)) (.slice (some ⟨w.heap.size, 0, none⟩) 0 0) [] := World.ownsRow_lit w #[] 0 h (by unfold maxLen; omega) rfl
theorem infoE : (Tryz.prog.info? 75).map (fun i => (i.zero, i.size, i.bytes)) = some (some (.agg #[.int .i64 0, .int .i64 0, .int .i64 0, .int .i64 0, .int .i64 0, .int .i64 0, .int .i64 0]), 7, 56) := by kernel_rfl
end Go.Proofs.YtgjebjoaemeeoaaGreatDoor.kit
