/-
  Sessions: how a slice of sessions reads as a list; a row of the call's own; a machine that came in.
-/
import Derived.Test.YtkkgonkpmdlelaaDoorInts
import Derived.Test.YtkkgonkpmdlelaaDoorStructs
import Derived.Deep.Slices
import Derived.Deep.Strs
namespace Go.Proofs.YtkkgonkpmdlelaaDoor.kit
open Go.ChangeShapes Go.WideShapes Go.ChangeAt Go.RowKit Go.Deep
set_option linter.unusedVariables false

/-- Client, Seq, Done, Value -/
abbrev Sess := Int × Int × Bool × Int
def z0 : Sess := (0, 0, false, 0)
abbrev sessC (x : Sess) : List Value := [.int .i64 x.1, .int .i64 x.2.1, .bool x.2.2.1, .int .i64 x.2.2.2]
abbrev sessV (x : Sess) : Value := .agg #[.int .i64 x.1, .int .i64 x.2.1, .bool x.2.2.1, .int .i64 x.2.2.2]
def cellsS (l : List Sess) : List Value := l.flatMap sessC
/-- the j-th session -/
def sg (l : List Sess) (j : Nat) : Sess := l.getD j z0
theorem cellsS_nil : cellsS [] = [] := rfl
theorem cellsS_cons (x : Sess) (l : List Sess) : cellsS (x :: l) = sessC x ++ cellsS l := rfl
theorem cellsS_app (l m : List Sess) : cellsS (l ++ m) = cellsS l ++ cellsS m := by simp [cellsS]
theorem cellsS_len (l : List Sess) : (cellsS l).length = l.length * 4 := by
  induction l with
  | nil => rfl
  | cons x l ih => rw [cellsS_cons, List.length_append, ih]; simp; omega
theorem cellsS_at (l : List Sess) (j : Nat) (hj : j < l.length) (k : Nat) (hk : k < 4) : (cellsS l)[j * 4 + k]? = (sessC (sg l j))[k]? := by
  induction l generalizing j with
  | nil => simp at hj
  | cons x l ih =>
    rw [cellsS_cons]
    cases j with
    | zero => rw [List.getElem?_append_left (by simpa using hk)]; simp [sg]
    | succ j =>
      rw [List.getElem?_append_right (by simp; omega)]
      have e : (j + 1) * 4 + k - (sessC x).length = j * 4 + k := by simp; omega
      rw [e, ih j (by simpa using hj)]
      simp [sg]
theorem sg_mem {l : List Sess} {j : Nat} (h : j < l.length) : sg l j ∈ l := by simp [sg, List.getD, h]
theorem sg_eq {l : List Sess} {j : Nat} (h : j < l.length) : sg l j = l[j] := by simp [sg, List.getD, h]

/-- the four cells of a session from place o of block g on -/
structure SessAt (w : World) (g o : Nat) (x : Sess) : Prop where
  c0 : w.cell? ⟨g, o, none⟩ = some (.int .i64 x.1)
  c1 : w.cell? ⟨g, o + 1, none⟩ = some (.int .i64 x.2.1)
  c2 : w.cell? ⟨g, o + 2, none⟩ = some (.bool x.2.2.1)
  c3 : w.cell? ⟨g, o + 3, none⟩ = some (.int .i64 x.2.2.2)
theorem add_block (p : Addr) (i : Nat) : (p.add i).block = p.block := by unfold Addr.add; split <;> rfl
theorem add_zero' (p : Addr) : p.add 0 = p := by unfold Addr.add; split <;> simp_all
theorem add_mk (g o i : Nat) : (⟨g, o, none⟩ : Addr).add i = ⟨g, o + i, none⟩ := by unfold Addr.add; split <;> simp_all
theorem SessAt.below {w w' : World} {g o : Nat} {x : Sess} {B : Nat} (h : SessAt w g o x) (hb : Below B w w') (hB : g < B) : SessAt w' g o x :=
  ⟨(hb.cell (p := ⟨g, o, none⟩) hB).trans h.c0, (hb.cell (p := ⟨g, o + 1, none⟩) hB).trans h.c1, (hb.cell (p := ⟨g, o + 2, none⟩) hB).trans h.c2, (hb.cell (p := ⟨g, o + 3, none⟩) hB).trans h.c3⟩
theorem SessAt.drewN {w : World} {g o : Nat} {x : Sess} (h : SessAt w g o x) (q : Nat) : SessAt (w.drewN q) g o x := ⟨h.c0, h.c1, h.c2, h.c3⟩
/-- the address a leads to the sessions l -/
def AtS (w : World) (a : Option Addr) (l : List Sess) : Prop := ∀ j, j < l.length → ∃ g o : Nat, a = some ⟨g, o, none⟩ ∧ g < w.heap.size ∧ SessAt w g (o + j * 4) (sg l j)
theorem AtS.nil (w : World) (a : Option Addr) : AtS w a [] := fun j h => by simp at h
theorem AtS.below {w w' : World} {a : Option Addr} {l : List Sess} {B : Nat} (h : AtS w a l) (hb : Below B w w') (hB : ∀ x : Addr, a = some x → 0 < l.length → x.block < B) : AtS w' a l := fun j hj => by
  obtain ⟨g, o, hx, hlt, hc⟩ := h j hj
  have hxB := hB _ hx (by omega)
  exact ⟨g, o, hx, Nat.lt_of_lt_of_le hlt hb.size, hc.below hb hxB⟩
theorem AtS.later {w w' : World} {a : Option Addr} {l : List Sess} (h : AtS w a l) (hb : Below w.heap.size w w') : AtS w' a l :=
  h.below hb (fun x hx h0 => by obtain ⟨g, o, hx', hlt, _⟩ := h 0 h0; rw [hx] at hx'; cases hx'; exact hlt)
theorem spot_none {w : World} {p : Addr} {v : Value} (h : w.cell? p = some v) : p = ⟨p.block, p.off, none⟩ := by
  obtain ⟨b, o, s⟩ := p
  unfold World.cell? at h
  split at h
  · split at h
    · cases h
    · rename_i hs
      cases s with
      | none => rfl
      | some x => simp at hs
  · cases h

section
variable {H : Type} {enc : TypeId × Value → H} {w : World} {base : Nat} {spare : Nat → Bool} {held : Bool}
set_option maxRecDepth 100000 in
theorem cells_boolint {n : Nat} {cs : List Value} {x : DataW H × List MemPlace} (h : DataW.trod enc Tryd.prog w base spare held n 156 cs = some x) : ∃ (d : Bool) (v : Int), cs = [.bool d, .int .i64 v] := by
  obtain ⟨y0, y1, m, hx, hl, h0, h1⟩ := trod_struct2 Tryd.underlying156 h
  have kb : Tryd.prog.cellsOf 4 = 1 := by kernel_rfl
  have ki : Tryd.prog.cellsOf 3 = 1 := by kernel_rfl
  have kr : Tryd.prog.cellsOf 156 = 2 := by kernel_rfl
  rw [kr] at hl
  match cs, hl with
  | [c0, c1], _ =>
    simp only [kb, ki, List.drop_zero, List.take_succ_cons, List.take_zero, List.drop_succ_cons] at h0 h1
    obtain ⟨d, e0, _⟩ := DataW.trod_bool Tryd.underlying4 h0
    obtain ⟨v, e1, _⟩ := DataW.trod_int Tryd.underlying3 h1
    simp only [List.cons.injEq, and_true] at e0 e1
    subst e0 e1
    exact ⟨d, v, rfl⟩
set_option maxRecDepth 100000 in
theorem cells_sess {n : Nat} {cs : List Value} {x : DataW H × List MemPlace} (h : DataW.trod enc Tryd.prog w base spare held n 158 cs = some x) : ∃ s : Sess, cs = sessC s := by
  obtain ⟨y0, y1, y2, m, hx, hl, h0, h1, h2⟩ := trod_struct3 Tryd.underlying158 h
  have ki : Tryd.prog.cellsOf 3 = 1 := by kernel_rfl
  have kr : Tryd.prog.cellsOf 156 = 2 := by kernel_rfl
  have ks : Tryd.prog.cellsOf 158 = 4 := by kernel_rfl
  rw [ks] at hl
  match cs, hl with
  | [c0, c1, c2, c3], _ =>
    simp only [kr, ki, List.drop_zero, List.take_succ_cons, List.take_zero, List.drop_succ_cons] at h0 h1 h2
    obtain ⟨c, e0, _⟩ := DataW.trod_int Tryd.underlying3 h0
    obtain ⟨s, e1, _⟩ := DataW.trod_int Tryd.underlying3 h1
    obtain ⟨d, v, e2⟩ := cells_boolint h2
    simp only [List.cons.injEq, and_true] at e0 e1 e2
    obtain ⟨e2, e3⟩ := e2
    subst e0 e1 e2 e3
    exact ⟨(c, s, d, v), rfl⟩
set_option maxRecDepth 100000 in
/-- a []Session of the law's, as cells: a list that its address leads to -/
theorem open_sessS {n : Nat} {c : Value} {x : DataW H × List MemPlace} (h : DataW.trod enc Tryd.prog w base spare held n 36 [c] = some x) (hlt : ∀ p ∈ x.2, p.block < w.heap.size) :
    ∃ (a : Option Addr) (cap : Nat) (L : List Sess), c = .slice a L.length cap ∧ AtS w a L ∧ L.length ≤ maxLen := by
  rcases open_slice Tryd.underlying36 h with ⟨hcs, _⟩ | ⟨a, len, cap, m, k, D, Pl, hcs, hb, hl, hm, hmm, hx, hi⟩
  · simp only [List.cons.injEq, and_true] at hcs
    exact ⟨none, 0, [], hcs, AtS.nil _ _, by simp⟩
  · simp only [List.cons.injEq, and_true] at hcs
    have hlm : len ≤ m := by rw [hmm]; split <;> omega
    have ks : Tryd.prog.cellsOf 158 = 4 := by kernel_rfl
    by_cases h0 : len = 0
    · subst h0
      exact ⟨some a, cap, [], hcs, AtS.nil _ _, by simp⟩
    have ha : a = ⟨a.block, a.off, none⟩ := by
      obtain ⟨cs', h1, h2⟩ := hi 0 (by omega)
      rw [ks] at h1
      obtain ⟨_, hlen, hcell⟩ := World.cells?_some h1
      obtain ⟨s, rfl⟩ := cells_sess h2
      have := hcell 0 (by omega)
      rw [Nat.zero_mul, add_zero', add_zero'] at this
      exact spot_none this
    have hex : ∀ i, i < m → ∃ s : Sess, SessAt w a.block (a.off + i * 4) s := fun i him => by
      obtain ⟨cs', h1, h2⟩ := hi i him
      rw [ks] at h1
      obtain ⟨_, hlen, hcell⟩ := World.cells?_some h1
      obtain ⟨s, rfl⟩ := cells_sess h2
      rw [ha] at hcell
      simp only [add_mk] at hcell
      exact ⟨s, ⟨hcell 0 (by omega), hcell 1 (by omega), hcell 2 (by omega), hcell 3 (by omega)⟩⟩
    obtain ⟨q, hq⟩ := choose_lt (α := Sess) hex
    refine ⟨some a, cap, (List.range len).map q, by rw [hcs]; simp, fun j hj => ?_, by simp; omega⟩
    have hj' : j < len := by simpa using hj
    have hs : sg ((List.range len).map q) j = q j := by simp [sg, List.getD, hj']
    have h1 := hq j (by omega)
    exact ⟨a.block, a.off, by rw [← ha], World.block_lt_of_cell? w ⟨a.block, a.off + j * 4, none⟩ h1.c0, by rw [hs]; exact h1⟩
set_option maxRecDepth 100000 in
/-- a []int, as cells -/
theorem open_intS {n : Nat} {c : Value} {x : DataW H × List MemPlace} (h : DataW.trod enc Tryd.prog w base spare held n 22 [c] = some x) :
    ∃ (a : Option Addr) (cap : Nat) (L : List Int), c = .slice a L.length cap ∧ At w a L ∧ L.length ≤ maxLen ∧ ∀ y ∈ L, (Lit.int .i64 y).wf = true := by
  rcases open_ints Tryd.underlying22 Tryd.underlying3 (by kernel_rfl) h with ⟨hcs, _⟩ | ⟨a, len, cap, zs, hcs, hb, hl, hm, hz, hx, hcell, hwz⟩
  · simp only [List.cons.injEq, and_true] at hcs
    exact ⟨none, 0, [], hcs, At.nil _ _, by simp, by simp⟩
  · simp only [List.cons.injEq, and_true] at hcs
    have hzl : len ≤ zs.length := by rw [hz]; split <;> omega
    have hn : (zs.take len).length = len := by rw [List.length_take]; omega
    refine ⟨some a, cap, zs.take len, by rw [hcs, hn], fun j hj => ⟨a, rfl, ?_, ?_⟩, by omega, fun y hy => hwz y (List.mem_of_mem_take hy)⟩
    · have hb := World.block_lt_of_cell? w _ (hcell j (by omega))
      rw [add_block] at hb; exact hb
    · rw [hcell j (by omega)]
      have hj' : j < len := by omega
      simp [List.getD, hj']
set_option maxRecDepth 100000 in
/-- a Machine of the law's, handed in -/
theorem open_machine {r : Reach} {b0 : Nat} {v : Value} {d : DataW H} {p : List MemPlace} (hv : Value.okWide Tryd.prog w r b0 38 v) (h : DataW.Trod enc Tryd.prog w base spare held 38 v d p) (hlt : ∀ x ∈ p, x.block < w.heap.size) :
    ∃ (a1 : Option Addr) (c1 : Nat) (L1 : List Int) (a2 : Option Addr) (c2 : Nat) (L2 : List Sess), v = .agg #[.slice a1 L1.length c1, .slice a2 L2.length c2] ∧ At w a1 L1 ∧ AtS w a2 L2 ∧ L1.length ≤ maxLen ∧ L2.length ≤ maxLen := by
  obtain ⟨cs, ys, n, rfl, hc, hy, hd, hp, hf⟩ := openFields Tryd.underlying38 (by kernel_rfl) (by kernel_rfl) hv h
  match cs, ys, hc, hy with
  | [c0, c1], [y0, y1], _, _ =>
    have h0 := hf 0 _ c0 rfl rfl
    have h1 := hf 1 _ c1 rfl rfl
    obtain ⟨a1, k1, L1, rfl, hA, hm1, _⟩ := open_intS h0
    obtain ⟨a2, k2, L2, rfl, hB, hm2⟩ := open_sessS h1 (fun q hq => hlt q (by rw [hp]; simp [hq]))
    exact ⟨a1, k1, L1, a2, k2, L2, rfl, hA, hB, hm1, hm2⟩
end

/-- the slice value v is the call's own row of the sessions l -/
def OwnS (base : Nat) (w : World) (v : Value) (l : List Sess) : Prop := w.ownsRow base 67 4 v l.length (cellsS l)
theorem OwnS.row {base : Nat} {w : World} {v : Value} {l : List Sess} (h : OwnS base w v l) : w.ownsRow base 67 4 v l.length (cellsS l) := h
theorem sessAt_of {w : World} {g j : Nat} {s : Sess} (h : ∀ k, k < 4 → w.cell? ⟨g, j + k, none⟩ = (sessC s)[k]?) : SessAt w g j s :=
  ⟨h 0 (by omega), h 1 (by omega), h 2 (by omega), h 3 (by omega)⟩
theorem OwnS.at {base : Nat} {w : World} {g cap : Nat} {l : List Sess} (h : OwnS base w (.slice (some ⟨g, 0, none⟩) l.length cap) l) (j : Nat) (hj : j < l.length) : SessAt w g (j * 4) (sg l j) :=
  sessAt_of (fun k hk => by rw [h.row.cellAt (j * 4 + k) (by omega)]; exact cellsS_at l j hj k hk)
theorem OwnS.form {base : Nat} {w : World} {v : Value} {l : List Sess} (h : OwnS base w v l) : ∃ a cap, v = .slice a l.length cap ∧ l.length ≤ cap ∧ cap ≤ maxLen ∧ AtS w a l ∧ (∀ x, a = some x → base ≤ x.block ∧ x.block < w.heap.size) := by
  rcases h.2 with ⟨rfl, h0⟩ | ⟨g, c, cur, rfl, hg, hh, hn, hm, _⟩
  · obtain rfl := List.eq_nil_of_length_eq_zero h0
    exact ⟨none, 0, rfl, Nat.le_refl _, Nat.zero_le _, AtS.nil _ _, fun x hx => by cases hx⟩
  · have hlt : g < w.heap.size := (Array.getElem?_eq_some_iff.1 hh).1
    exact ⟨_, _, rfl, hn, hm, fun j hj => ⟨g, 0, rfl, hlt, by rw [Nat.zero_add]; exact h.at j hj⟩, fun x hx => by cases hx; exact ⟨hg, hlt⟩⟩
theorem OwnS.there {base : Nat} {w : World} {v : Value} {l : List Sess} (h : OwnS base w v l) (h0 : 0 < l.length) : ∃ g cap, v = .slice (some ⟨g, 0, none⟩) l.length cap ∧ l.length ≤ cap ∧ cap ≤ maxLen ∧ base ≤ g ∧ g < w.heap.size := by
  rcases h.2 with ⟨rfl, h1⟩ | ⟨g, c, cur, rfl, hg, hh, hn, hm, _⟩
  · omega
  · exact ⟨g, c, rfl, hn, hm, hg, (Array.getElem?_eq_some_iff.1 hh).1⟩
theorem OwnS.mono {base base' : Nat} {w : World} {v : Value} {l : List Sess} (h : OwnS base w v l) (hb : base' ≤ base) : OwnS base' w v l :=
  ⟨h.1, h.2.imp id (fun ⟨g, c, cur, hv, hg, r⟩ => ⟨g, c, cur, hv, by omega, r⟩)⟩
theorem OwnS.later {base : Nat} {w w' : World} {v : Value} {l : List Sess} (h : OwnS base w v l) (hb : Below w.heap.size w w') : OwnS base w' v l :=
  ⟨h.1, h.2.imp id (fun ⟨g, c, cur, hv, hg, hh, r⟩ => ⟨g, c, cur, hv, hg, (hb.block g (Array.getElem?_eq_some_iff.1 hh).1).trans hh, r⟩)⟩
theorem OwnS.of {base : Nat} {w : World} {v : Value} {l : List Sess} {n : Nat} {cs : List Value} (h : w.ownsRow base 67 4 v n cs) (hc : cs = cellsS l) : OwnS base w v l := by
  subst hc
  have hn : n = l.length := by have := h.1; rw [cellsS_len] at this; omega
  subst hn
  exact h
theorem OwnS.block {base : Nat} {w : World} {v : Value} {l : List Sess} (h : OwnS base w v l) : ∀ g, v.ownBlock = some g → base ≤ g ∧ g < w.heap.size := h.row.lt
theorem OwnS.marked {base : Nat} {w w' : World} {v u : Value} {l : List Sess} (h : OwnS base w u l) (hg : w.grownBy w' v.ownBlock) (hne : ∀ g, v.ownBlock = some g → u.ownBlock = some g → False) : OwnS base w' u l := by
  refine h.row.kept hg ?_
  cases hu : u.ownBlock with
  | none => exact .inl rfl
  | some g => exact .inr fun e => hne g e.symm hu
theorem infoSess : (Tryd.prog.info? 67).map (fun i => (i.zero, i.size, i.bytes)) = some (some (.agg #[.int .i64 0, .int .i64 0, .bool false, .int .i64 0]), 4, 32) := by kernel_rfl
end Go.Proofs.YtkkgonkpmdlelaaDoor.kit
