/-
  Sessions: how a slice of sessions reads as a list; a row of the call's own; a machine that came in.
-/
import Derived.Test.YtgjebjoaemeeoaaGreatDoorIntsB
import Derived.Test.YtgjebjoaemeeoaaGreatDoorStructs
import Derived.Deep.Slices
import Derived.Deep.Strs
namespace Go.Proofs.YtgjebjoaemeeoaaGreatDoor.kit
open Go.ChangeShapes Go.WideShapes Go.ChangeAt Go.RowKit Go.Deep
set_option linter.unusedVariables false

/-- Client, Seq, Done, Value -/
abbrev Sess := Int × Int × Bool × Int
def z0 : Sess := (0, 0, false, 0)
abbrev sessC (x : Sess) : List Value := [.int .i64 x.1, .int .i64 x.2.1, .bool x.2.2.1, .int .i64 x.2.2.2]
abbrev sessV (x : Sess) : Value := .agg #[.int .i64 x.1, .int .i64 x.2.1, .bool x.2.2.1, .int .i64 x.2.2.2]
def cellsS (l : List Sess) : List Value := l.flatMap sessC
/-- the j-th session -/
def sg (l : List Sess) (j : Nat) : Sess := l.getD j z0
theorem cellsS_nil : cellsS [] = [] := rfl
theorem cellsS_cons (x : Sess) (l : List Sess) : cellsS (x :: l) = sessC x ++ cellsS l := rfl
theorem cellsS_app (l m : List Sess) : cellsS (l ++ m) = cellsS l ++ cellsS m := by simp [cellsS]
theorem cellsS_len (l : List Sess) : (cellsS l).length = l.length * 4 := by
  induction l with
  | nil => rfl
  | cons x l ih => rw [cellsS_cons, List.length_append, ih]; simp; omega
theorem cellsS_at (l : List Sess) (j : Nat) (hj : j < l.length) (k : Nat) (hk : k < 4) : (cellsS l)[j * 4 + k]? = (sessC (sg l j))[k]? := by
  induction l generalizing j with
  | nil => simp at hj
  | cons x l ih =>
    rw [cellsS_cons]
    cases j with
    | zero => rw [List.getElem?_append_left (by simpa using hk)]; simp [sg]
    | succ j =>
      rw [List.getElem?_append_right (by simp; omega)]
      have e : (j + 1) * 4 + k - (sessC x).length = j * 4 + k := by simp; omega
      rw [e, ih j (by simpa using hj)]
      simp [sg]
theorem sg_mem {l : List Sess} {j : Nat} (h : j < l.length) : sg l j ∈ l := by simp [sg, List.getD, h]
theorem sg_eq {l : List Sess} {j : Nat} (h : j < l.length) : sg l j = l[j] := by simp [sg, List.getD, h]

/-- the four cells of a session from place o of block g on -/
structure SessAt (w : World) (g o : Nat) (x : Sess) : Prop where
  c0 : w.cell? ⟨g, o, none⟩ = some (.int .i64 x.1)
  c1 : w.cell? ⟨g, o + 1, none⟩ = some (.int .i64 x.2.1)
  c2 : w.cell? ⟨g, o + 2, none⟩ = some (.bool x.2.2.1)
  c3 : w.cell? ⟨g, o + 3, none⟩ = some (.int .i64 x.2.2.2)
theorem SessAt.below {w w' : World} {g o : Nat} {x : Sess} {B : Nat} (h : SessAt w g o x) (hb : Below B w w') (hB : g < B) : SessAt w' g o x :=
  ⟨(hb.cell (p := ⟨g, o, none⟩) hB).trans h.c0, (hb.cell (p := ⟨g, o + 1, none⟩) hB).trans h.c1, (hb.cell (p := ⟨g, o + 2, none⟩) hB).trans h.c2, (hb.cell (p := ⟨g, o + 3, none⟩) hB).trans h.c3⟩
theorem SessAt.drewN {w : World} {g o : Nat} {x : Sess} (h : SessAt w g o x) (q : Nat) : SessAt (w.drewN q) g o x := ⟨h.c0, h.c1, h.c2, h.c3⟩
/-- the address a leads to the sessions l -/
def AtS (w : World) (a : Option Addr) (l : List Sess) : Prop := ∀ j, j < l.length → ∃ g o : Nat, a = some ⟨g, o, none⟩ ∧ g < w.heap.size ∧ SessAt w g (o + j * 4) (sg l j)
theorem AtS.nil (w : World) (a : Option Addr) : AtS w a [] := fun j h => by simp at h
theorem AtS.below {w w' : World} {a : Option Addr} {l : List Sess} {B : Nat} (h : AtS w a l) (hb : Below B w w') (hB : ∀ x : Addr, a = some x → 0 < l.length → x.block < B) : AtS w' a l := fun j hj => by
  obtain ⟨g, o, hx, hlt, hc⟩ := h j hj
  have hxB := hB _ hx (by omega)
  exact ⟨g, o, hx, Nat.lt_of_lt_of_le hlt hb.size, hc.below hb hxB⟩
theorem AtS.later {w w' : World} {a : Option Addr} {l : List Sess} (h : AtS w a l) (hb : Below w.heap.size w w') : AtS w' a l :=
  h.below hb (fun x hx h0 => by obtain ⟨g, o, hx', hlt, _⟩ := h 0 h0; rw [hx] at hx'; cases hx'; exact hlt)
theorem spot_none {w : World} {p : Addr} {v : Value} (h : w.cell? p = some v) : p = ⟨p.block, p.off, none⟩ := by
  obtain ⟨b, o, s⟩ := p
  unfold World.cell? at h
  split at h
  · split at h
    · cases h
    · rename_i hs
      cases s with
      | none => rfl
      | some x => simp at hs
  · cases h


/-- the slice value v is the call's own row of the sessions l -/
def OwnS (base : Nat) (w : World) (v : Value) (l : List Sess) : Prop := w.ownsRow base 98 4 v l.length (cellsS l)
theorem OwnS.row {base : Nat} {w : World} {v : Value} {l : List Sess} (h : OwnS base w v l) : w.ownsRow base 98 4 v l.length (cellsS l) := h
theorem sessAt_of {w : World} {g j : Nat} {s : Sess} (h : ∀ k, k < 4 → w.cell? ⟨g, j + k, none⟩ = (sessC s)[k]?) : SessAt w g j s :=
  ⟨h 0 (by omega), h 1 (by omega), h 2 (by omega), h 3 (by omega)⟩
theorem OwnS.at {base : Nat} {w : World} {g cap : Nat} {l : List Sess} (h : OwnS base w (.slice (some ⟨g, 0, none⟩) l.length cap) l) (j : Nat) (hj : j < l.length) : SessAt w g (j * 4) (sg l j) :=
  sessAt_of (fun k hk => by rw [h.row.cellAt (j * 4 + k) (by omega)]; exact cellsS_at l j hj k hk)
theorem OwnS.form {base : Nat} {w : World} {v : Value} {l : List Sess} (h : OwnS base w v l) : ∃ a cap, v = .slice a l.length cap ∧ l.length ≤ cap ∧ cap ≤ maxLen ∧ AtS w a l ∧ (∀ x, a = some x → base ≤ x.block ∧ x.block < w.heap.size) := by
  rcases h.2 with ⟨rfl, h0⟩ | ⟨g, c, cur, rfl, hg, hh, hn, hm, _⟩
  · obtain rfl := List.eq_nil_of_length_eq_zero h0
    exact ⟨none, 0, rfl, Nat.le_refl _, Nat.zero_le _, AtS.nil _ _, fun x hx => by cases hx⟩
  · have hlt : g < w.heap.size := (Array.getElem?_eq_some_iff.1 hh).1
    exact ⟨_, _, rfl, hn, hm, fun j hj => ⟨g, 0, rfl, hlt, by rw [Nat.zero_add]; exact h.at j hj⟩, fun x hx => by cases hx; exact ⟨hg, hlt⟩⟩
theorem OwnS.there {base : Nat} {w : World} {v : Value} {l : List Sess} (h : OwnS base w v l) (h0 : 0 < l.length) : ∃ g cap, v = .slice (some ⟨g, 0, none⟩) l.length cap ∧ l.length ≤ cap ∧ cap ≤ maxLen ∧ base ≤ g ∧ g < w.heap.size := by
  rcases h.2 with ⟨rfl, h1⟩ | ⟨g, c, cur, rfl, hg, hh, hn, hm, _⟩
  · omega
  · exact ⟨g, c, rfl, hn, hm, hg, (Array.getElem?_eq_some_iff.1 hh).1⟩
theorem OwnS.mono {base base' : Nat} {w : World} {v : Value} {l : List Sess} (h : OwnS base w v l) (hb : base' ≤ base) : OwnS base' w v l :=
  ⟨h.1, h.2.imp id (fun ⟨g, c, cur, hv, hg, r⟩ => ⟨g, c, cur, hv, by omega, r⟩)⟩
theorem OwnS.later {base : Nat} {w w' : World} {v : Value} {l : List Sess} (h : OwnS base w v l) (hb : Below w.heap.size w w') : OwnS base w' v l :=
  ⟨h.1, h.2.imp id (fun ⟨g, c, cur, hv, hg, hh, r⟩ => ⟨g, c, cur, hv, hg, (hb.block g (Array.getElem?_eq_some_iff.1 hh).1).trans hh, r⟩)⟩
theorem OwnS.of {base : Nat} {w : World} {v : Value} {l : List Sess} {n : Nat} {cs : List Value} (h : w.ownsRow base 98 4 v n cs) (hc : cs = cellsS l) : OwnS base w v l := by
  subst hc
  have hn : n = l.length := by have := h.1; rw [cellsS_len] at this; omega
  subst hn
  exact h
theorem OwnS.block {base : Nat} {w : World} {v : Value} {l : List Sess} (h : OwnS base w v l) : ∀ g, v.ownBlock = some g → base ≤ g ∧ g < w.heap.size := h.row.lt
theorem OwnS.marked {base : Nat} {w w' : World} {v u : Value} {l : List Sess} (h : OwnS base w u l) (hg : w.grownBy w' v.ownBlock) (hne : ∀ g, v.ownBlock = some g → u.ownBlock = some g → False) : OwnS base w' u l := by
  refine h.row.kept hg ?_
  cases hu : u.ownBlock with
  | none => exact .inl rfl
  | some g => exact .inr fun e => hne g e.symm hu
theorem infoSess : (Tryz.prog.info? 98).map (fun i => (i.zero, i.size, i.bytes)) = some (some (.agg #[.int .i64 0, .int .i64 0, .bool false, .int .i64 0]), 4, 32) := by kernel_rfl
end Go.Proofs.YtgjebjoaemeeoaaGreatDoor.kit
