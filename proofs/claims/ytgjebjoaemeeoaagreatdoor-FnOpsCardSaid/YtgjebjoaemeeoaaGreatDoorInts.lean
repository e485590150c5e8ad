/-
  Slices of ints: how a slice reads as a list; a row of the call's own; the laws' helpers that copy, compare, mark and check such slices.
-/
import Derived.Test.YtgjebjoaemeeoaaGreatDoorC1Fixed
import Derived.IntWalk
import Derived.Handy
import Derived.OwnWalk
namespace Go.Proofs.YtgjebjoaemeeoaaGreatDoor.kit
open Go.ChangeShapes Go.WideShapes Go.ChangeAt Go.RowKit
set_option linter.unusedVariables false

/-- the address a leads to the ints l -/
def At (w : World) (a : Option Addr) (l : List Int) : Prop := ∀ j, j < l.length → ∃ x : Addr, a = some x ∧ x.block < w.heap.size ∧ w.cell? (x.add j) = some (.int .i64 (l.getD j 0))
theorem At.nil (w : World) (a : Option Addr) : At w a [] := fun j h => by simp at h
theorem At.below {w w' : World} {a : Option Addr} {l : List Int} {B : Nat} (h : At w a l) (hb : Below B w w') (hB : ∀ x, a = some x → 0 < l.length → x.block < B) : At w' a l := fun j hj => by
  obtain ⟨x, hx, hlt, hc⟩ := h j hj
  have hxB := hB x hx (by omega)
  exact ⟨x, hx, Nat.lt_of_lt_of_le hlt hb.size, (hb.cell (p := x.add j) (by unfold Addr.add; split <;> exact hxB)).trans hc⟩
theorem At.later {w w' : World} {a : Option Addr} {l : List Int} (h : At w a l) (hb : Below w.heap.size w w') : At w' a l :=
  h.below hb (fun x hx h0 => by obtain ⟨x', hx', hlt, _⟩ := h 0 h0; rw [hx] at hx'; cases hx'; exact hlt)
/-- a []int that came in reads as a list -/
theorem IsRow.list {w : World} {a : Option Addr} {len cap : Nat} {zs : List Int} (h : IsRow .i64 w a len cap zs) : ∃ L : List Int, len = L.length ∧ At w a L := by
  rcases h with ⟨_, rfl, _, _⟩ | ⟨x, rfl, h1, h2, h3, h4, _⟩
  · exact ⟨[], rfl, At.nil _ _⟩
  · have hn : (zs.take len).length = len := by rw [List.length_take, h3]; omega
    refine ⟨zs.take len, hn.symm, fun j hj => ⟨x, rfl, ?_, ?_⟩⟩
    · have hb := World.block_lt_of_cell? w _ (h4 j (by omega))
      have e : (x.add j).block = x.block := by unfold Addr.add; split <;> rfl
      rw [e] at hb; exact hb
    · rw [h4 j (by omega)]
      have hj' : j < len := by omega
      simp [List.getD, hj']
theorem At.drewN {w : World} {a : Option Addr} {l : List Int} (h : At w a l) (q : Nat) : At (w.drewN q) a l := h
/-- the slice value v is the call's own row of the ints l -/
def OwnI (base : Nat) (w : World) (v : Value) (l : List Int) : Prop := w.ownsRow base 3 1 v l.length (l.map (Value.int .i64))
theorem OwnI.row {base : Nat} {w : World} {v : Value} {l : List Int} (h : OwnI base w v l) : w.ownsRow base 3 1 v l.length (l.map (Value.int .i64)) := h
theorem OwnI.form {base : Nat} {w : World} {v : Value} {l : List Int} (h : OwnI base w v l) : ∃ a cap, v = .slice a l.length cap ∧ l.length ≤ cap ∧ cap ≤ maxLen ∧ At w a l ∧ (∀ x, a = some x → base ≤ x.block ∧ x.block < w.heap.size) := by
  rcases h.2 with ⟨rfl, h0⟩ | ⟨g, c, cur, rfl, hg, hh, hn, hm, _⟩
  · obtain rfl := List.eq_nil_of_length_eq_zero h0
    exact ⟨none, 0, rfl, Nat.le_refl _, Nat.zero_le _, At.nil _ _, fun x hx => by cases hx⟩
  · have hlt : g < w.heap.size := (Array.getElem?_eq_some_iff.1 hh).1
    refine ⟨_, _, rfl, hn, hm, fun j hj => ⟨_, rfl, hlt, ?_⟩, fun x hx => by cases hx; exact ⟨hg, hlt⟩⟩
    have := h.row.cellAt j (by omega)
    have hadd : (⟨g, 0, none⟩ : Addr).add j = ⟨g, j, none⟩ := by unfold Addr.add; split <;> simp_all
    rw [hadd, this]
    simp [List.getD, hj]
theorem OwnI.there {base : Nat} {w : World} {v : Value} {l : List Int} (h : OwnI base w v l) (h0 : 0 < l.length) : ∃ g cap, v = .slice (some ⟨g, 0, none⟩) l.length cap ∧ l.length ≤ cap ∧ cap ≤ maxLen ∧ base ≤ g ∧ g < w.heap.size := by
  rcases h.2 with ⟨rfl, h1⟩ | ⟨g, c, cur, rfl, hg, hh, hn, hm, _⟩
  · omega
  · exact ⟨g, c, rfl, hn, hm, hg, (Array.getElem?_eq_some_iff.1 hh).1⟩
theorem OwnI.mono {base base' : Nat} {w : World} {v : Value} {l : List Int} (h : OwnI base w v l) (hb : base' ≤ base) : OwnI base' w v l :=
  ⟨h.1, h.2.imp id (fun ⟨g, c, cur, hv, hg, r⟩ => ⟨g, c, cur, hv, by omega, r⟩)⟩
theorem OwnI.later {base : Nat} {w w' : World} {v : Value} {l : List Int} (h : OwnI base w v l) (hb : Below w.heap.size w w') : OwnI base w' v l :=
  h.row.kept (row := none) ⟨hb.os, hb.tape, hb.output, hb.size, fun k hk _ => hb.block k hk⟩ (by cases hv : v.ownBlock <;> simp)
theorem OwnI.snoc {base : Nat} {w : World} {v : Value} {l : List Int} {x : Int} (h : w.ownsRow base 3 1 v (l.length + 1) (l.map (Value.int .i64) ++ [.int .i64 x])) : OwnI base w v (l ++ [x]) := by
  simpa [OwnI] using h
theorem OwnI.of {base : Nat} {w : World} {v : Value} {l : List Int} {n : Nat} {cs : List Value} (h : w.ownsRow base 3 1 v n cs) (hc : cs = l.map (Value.int .i64)) : OwnI base w v l := by
  subst hc
  have hn : n = l.length := by have := h.1; simpa using this.symm
  subst hn
  exact h
theorem gtrans {a b c : World} {row : Option Nat} (h : a.grownBy b row) (k : b.grownBy c row) : a.grownBy c row :=
  ⟨k.os.trans h.os, k.tape.trans h.tape, k.output.trans h.output, Nat.le_trans h.size k.size, fun i hi hne => (k.block i (Nat.lt_of_lt_of_le hi h.size) hne).trans (h.block i hi hne)⟩
theorem drewN2 (w : World) (q n : Nat) : (w.drewN q).drewN n = w.drewN (q + n) := by simp [World.drewN, Nat.add_assoc]
/-- nothing but draws lies between the two worlds -/
def Drawn (w w' : World) : Prop := ∃ q, w' = w.drewN q
theorem Drawn.refl (w : World) : Drawn w w := ⟨0, rfl⟩
theorem Drawn.more {w w' : World} (h : Drawn w w') (n : Nat) : Drawn w (w'.drewN n) := by obtain ⟨q, rfl⟩ := h; exact ⟨_, drewN2 _ _ _⟩
theorem Drawn.trans {a b c : World} (h : Drawn a b) (k : Drawn b c) : Drawn a c := by obtain ⟨q, rfl⟩ := k; exact h.more q
theorem Drawn.cell {w w' : World} (h : Drawn w w') {a : Addr} {v : Value} (hc : w.cell? a = some v) : w'.cell? a = some v := by obtain ⟨q, rfl⟩ := h; exact hc
theorem Drawn.below {w w' : World} (h : Drawn w w') (B : Nat) : Below B w w' := by obtain ⟨q, rfl⟩ := h; exact below_drewN (Below.refl _ _) q
theorem infoI : (Tryz.prog.info? 3).map (fun i => (i.zero, i.size, i.bytes)) = some (some (.int .i64 0), 1, 8) := by kernel_rfl
theorem getD_take {l : List Int} {n j : Nat} (h : j < n) : (l.take n).getD j 0 = l.getD j 0 := by simp [List.getD, h]
theorem take_snocI (l : List Int) (k : Nat) (h : k < l.length) : l.take (k + 1) = l.take k ++ [l.getD k 0] := by
  rw [List.take_succ_eq_append_getElem h]; simp [List.getD, h]

/-- the slice value sv reads as the ints l, below block B -/
def SrcI (B : Nat) (w : World) (sv : Value) (l : List Int) : Prop :=
  (sv = .slice none 0 0 ∧ l = []) ∨ ∃ ad c, sv = .slice (some ad) l.length c ∧ ad.block < B ∧ ∀ j, j < l.length → w.cell? (ad.add j) = some (.int .i64 (l.getD j 0))
theorem SrcI.below {B B' : Nat} {w w' : World} {sv : Value} {l : List Int} (h : SrcI B w sv l) (hb : Below B' w w') (hB : B ≤ B') : SrcI B w' sv l := by
  rcases h with h | ⟨ad, c, h1, h2, h3⟩
  · exact .inl h
  · exact .inr ⟨ad, c, h1, h2, fun j hj => (hb.cell (p := ad.add j) (by unfold Addr.add; split <;> exact Nat.lt_of_lt_of_le h2 hB)).trans (h3 j hj)⟩
theorem SrcI.row {w : World} {B g m : Nat} {c : Nat} {l : List Int} (hg : g < B) (hm : m = l.length) (h : ∀ j, j < l.length → w.cell? ⟨g, j, none⟩ = some (.int .i64 (l.getD j 0))) : SrcI B w (.slice (some ⟨g, 0, none⟩) m c) l := by
  subst hm
  exact .inr ⟨_, _, rfl, hg, fun j hj => by
    have e : (⟨g, 0, none⟩ : Addr).add j = ⟨g, j, none⟩ := by unfold Addr.add; split <;> simp_all
    rw [e]; exact h j hj⟩
theorem SrcI.part {w : World} {B g off m : Nat} {c : Nat} {l : List Int} (hg : g < B) (hm : m = l.length) (h : ∀ j, j < l.length → w.cell? ⟨g, off + j, none⟩ = some (.int .i64 (l.getD j 0))) : SrcI B w (.slice (some ⟨g, off, none⟩) m c) l := by
  subst hm
  exact .inr ⟨_, _, rfl, hg, fun j hj => by
    have e : (⟨g, off, none⟩ : Addr).add j = ⟨g, off + j, none⟩ := by unfold Addr.add; split <;> simp_all
    rw [e]; exact h j hj⟩
/-- a row of one number, just made -/
theorem SrcI.lit (w : World) (x : Int) : SrcI (w.heap.size + 1) (w.alloc (.cells #[.int .i64 x] 3)) (.slice (some ⟨w.heap.size, 0, none⟩) 1 1) [x] := by
  refine SrcI.row (by omega) rfl (fun j hj => ?_)
  obtain rfl : j = 0 := by simpa using hj
  have h : (w.alloc (.cells #[.int .i64 x] 3)).ownsRow 0 3 1 (.slice (some ⟨w.heap.size, 0, none⟩) 1 1) 1 [.int .i64 x] := World.ownsRow_lit w #[.int .i64 x] 1 (Nat.zero_le _) (by unfold maxLen; omega) rfl
  rw [h.cellAt 0 (by omega)]
  rfl
theorem SrcI.grown {B : Nat} {w w' : World} {sv : Value} {l : List Int} {row : Option Nat} (h : SrcI B w sv l) (hg : w.grownBy w' row) (hB : B ≤ w.heap.size) (hr : ∀ g ad n c, row = some g → sv = .slice (some ad) n c → ad.block ≠ g) : SrcI B w' sv l := by
  rcases h with h | ⟨ad, c, h1, h2, h3⟩
  · exact .inl h
  · refine .inr ⟨ad, c, h1, h2, fun j hj => ?_⟩
    have e : (ad.add j).block = ad.block := by unfold Addr.add; split <;> rfl
    refine (World.cell?_of_block ?_).trans (h3 j hj)
    rw [e]
    exact hg.block _ (by omega) (fun e => hr _ _ _ _ e.symm h1 rfl)
/-- append onto a row of the call's own, the source nil, empty or not -/
theorem wp_appI {w : World} {o : Oper} {a : Act} {K : Act → World → Prop} {Q : Exit → Act → World → Prop} (s x : Operand)
    (ho : o.op = .call { callee := .builtin .append, args := #[s, x], argTypes := #[35, 35] })
    (base : Nat) (v : Value) (l0 : List Int) (hs : a.eval s = v) (hown : OwnI base w v l0) (B : Nat) (sv : Value) (l : List Int) (hx : a.eval x = sv) (hsrc : SrcI B w sv l)
    (hlen : l0.length + l.length ≤ 1000000000000) (hbase : base ≤ w.heap.size)
    (h : ∀ v' w', OwnI base w' v' (l0 ++ l) → Below base w w' → w.grownBy w' v.ownBlock → K (a.put o.dst v') w') : o.wp Tryz.prog a w K Q := by
  obtain ⟨i0, hi, hz0, hz1, hz2⟩ := info_parts infoI
  rcases hsrc with ⟨rfl, rfl⟩ | ⟨ad, c, rfl, _, hc⟩
  · have hrun := run_append_owned_none (P := Tryz.prog) (w := w) base 35 o.type 3 i0 1 Tryz.underlying35 hi v l0.length _ hown.row
    unfold Oper.wp execOp
    simp only [ho, resolve, invoke, builtin, Sem.run_bind, Sem.run_pure, Result.andThen_ok, List.map_toArray, List.map_cons, List.map_nil, hs, hx, hrun]
    exact h v w (by rw [List.append_nil]; exact hown) (Below.refl _ _) (World.grownBy.refl _ _)
  · refine wp_append_own w s x 35 ho base 3 i0 (.int .i64 0) 1 8 Tryz.underlying35 hi hz0 hz1 hz2 rfl (by omega) v l0.length _ hs hown.row ad l.length c (l.map (Value.int .i64)) hx (by simp) ?_ ?_ (by unfold maxLen; omega) (by omega) hbase ?_
    · intro j u hu
      have hj : j < l.length := by
        have := (List.getElem?_eq_some_iff.1 hu).1
        simpa using this
      rw [List.getElem?_map, List.getElem?_eq_getElem hj] at hu
      have e := hc j hj
      rw [e]
      simpa [List.getD, hj] using hu
    · intro u hu
      obtain ⟨y, _, rfl⟩ := List.mem_map.1 hu
      rfl
    · intro v' w' h1 h2 _
      refine h v' w' (OwnI.of h1 (by rw [List.map_append])) ((Below.refl base w).grown h2 hbase (fun k hk => (hown.row.lt k hk).1)) h2
theorem wpList_appI {w : World} {ops : Array Oper} {rest : List Oper} {o : Oper} {a : Act} {Q : Exit → Act → World → Prop} (hgd : o.guard = none) (s x : Operand)
    (ho : o.op = .call { callee := .builtin .append, args := #[s, x], argTypes := #[35, 35] })
    (base : Nat) (v : Value) (l0 : List Int) (hs : a.eval s = v) (hown : OwnI base w v l0) (B : Nat) (sv : Value) (l : List Int) (hx : a.eval x = sv) (hsrc : SrcI B w sv l)
    (hlen : l0.length + l.length ≤ 1000000000000) (hbase : base ≤ w.heap.size)
    (h : ∀ v' w', OwnI base w' v' (l0 ++ l) → Below base w w' → w.grownBy w' v.ownBlock → wpList Tryz.prog ops Q rest (a.put o.dst v') w') : wpList Tryz.prog ops Q (o :: rest) a w :=
  wpList_plain hgd fun _ hK => wp_appI s x ho base v l0 hs hown B sv l hx hsrc hlen hbase fun v' w' h2 h3 h4 => hK _ _ (h v' w' h2 h3 h4)
theorem step_appI {w : World} {ops : Array Oper} {o : Oper} {a : Act} {K : Act → World → Prop} {Q : Exit → Act → World → Prop} {E : Prop} (hgd : o.guard = none) (s x : Operand)
    (ho : o.op = .call { callee := .builtin .append, args := #[s, x], argTypes := #[35, 35] })
    (base : Nat) (v : Value) (l0 : List Int) (hs : a.eval s = v) (hown : OwnI base w v l0) (B : Nat) (sv : Value) (l : List Int) (hx : a.eval x = sv) (hsrc : SrcI B w sv l)
    (hlen : l0.length + l.length ≤ 1000000000000) (hbase : base ≤ w.heap.size)
    (h : ∀ v' w', OwnI base w' v' (l0 ++ l) → Below base w w' → w.grownBy w' v.ownBlock → K (a.put o.dst v') w') :
    if Region.wanted o (yielded ops a.tmps) = true then Oper.wp Tryz.prog o a w K Q else E := by
  rw [if_pos (by simp [Region.wanted, hgd])]
  exact wp_appI s x ho base v l0 hs hown B sv l hx hsrc hlen hbase h

theorem eq_take {a b : List Int} {k : Nat} (hl : a.length = b.length) (hk : a.length ≤ k) (h : ∀ j, j < k → a.getD j 0 = b.getD j 0) : a = b := by
  apply List.ext_getElem hl
  intro j h1 h2
  have := h j (by omega)
  simpa [List.getD, h1, h2] using this
theorem OwnI.block {base : Nat} {w : World} {v : Value} {l : List Int} (h : OwnI base w v l) : ∀ g, v.ownBlock = some g → base ≤ g ∧ g < w.heap.size := h.row.lt
/-- a row stays while another one is marked -/
theorem OwnI.marked {base : Nat} {w w' : World} {v u : Value} {l : List Int} (h : OwnI base w u l) (hg : w.grownBy w' v.ownBlock) (hne : ∀ g, v.ownBlock = some g → u.ownBlock = some g → False) : OwnI base w' u l := by
  refine h.row.kept hg ?_
  cases hu : u.ownBlock with
  | none => exact .inl rfl
  | some g => exact .inr fun e => hne g e.symm hu
theorem marked_below {w w' : World} {v : Value} {B : Nat} (hg : w.grownBy w' v.ownBlock) (hB : B ≤ w.heap.size) (h : ∀ g, v.ownBlock = some g → B ≤ g) : Below B w w' := (Below.refl B w).grown hg hB h
end Go.Proofs.YtgjebjoaemeeoaaGreatDoor.kit
