/-
  Rows of Entry: append onto a row of the call's own, onto a slice without room; what a source slice reads as. Written by tools/gen_rows.py.
-/
import Derived.Test.YtkkgonkpmdlelaaDoorEnts2
import Derived.Deep.RegionLaw
import Derived.Deep.RegionLawGrows
namespace Go.Proofs.YtkkgonkpmdlelaaDoor.kit
open Go.ChangeShapes Go.WideShapes Go.ChangeAt Go.RowKit
set_option linter.unusedVariables false

/-- the slice value sv reads as the list l, below block B -/
def SrcE (B : Nat) (w : World) (sv : Value) (l : List Ent) : Prop :=
  (sv = .slice none 0 0 ∧ l = []) ∨ ∃ g o c, sv = .slice (some ⟨g, o, none⟩) l.length c ∧ g < B ∧ ∀ j, j < l.length → EntAt w g (o + j * 7) (gE l j)
theorem SrcE.below {B B' : Nat} {w w' : World} {sv : Value} {l : List Ent} (h : SrcE B w sv l) (hb : Below B' w w') (hB : B ≤ B') : SrcE B w' sv l := by
  rcases h with h | ⟨g, o, c, h1, h2, h3⟩
  · exact .inl h
  · exact .inr ⟨g, o, c, h1, h2, fun j hj => (h3 j hj).below hb (Nat.lt_of_lt_of_le h2 hB)⟩
theorem SrcE.own {b : Nat} {w : World} {v : Value} {l : List Ent} (h : OwnE b w v l) : SrcE w.heap.size w v l := by
  rcases h.2 with ⟨rfl, h0⟩ | ⟨g, c, cur, rfl, hg, hh, hn, hm, hr⟩
  · exact .inl ⟨rfl, List.eq_nil_of_length_eq_zero h0⟩
  · exact .inr ⟨g, 0, c, rfl, (Array.getElem?_eq_some_iff.1 hh).1, fun j hj => by rw [Nat.zero_add]; exact h.at j hj⟩
theorem SrcE.lit (w : World) (e : Int) (c : Int) (s : Int) (k : Int) (o : Int) (d : Int) (v : Int) : SrcE (w.heap.size + 1) (w.alloc (.cells #[.int .i64 e, .int .i64 c, .int .i64 s, .int .i64 k, .int .i64 o, .int .i64 d, .int .i64 v] 85)) (.slice (some ⟨w.heap.size, 0, none⟩) 1 1) [⟨e, c, s, k, o, d, v⟩] := by
  refine .inr ⟨w.heap.size, 0, 1, rfl, by omega, fun j hj => ?_⟩
  obtain rfl : j = 0 := by simpa using hj
  exact entAt_of (fun k hk => by rw [World.cell?_alloc_at _ _ _ _ rfl]; match k, hk with | 0, _ => rfl | 1, _ => rfl | 2, _ => rfl | 3, _ => rfl | 4, _ => rfl | 5, _ => rfl | 6, _ => rfl)
theorem SrcE.cell {w : World} {g o : Nat} {l : List Ent} (h : ∀ j, j < l.length → EntAt w g (o + j * 7) (gE l j)) (j : Nat) (u : Value) (hu : (cellsE l)[j]? = some u) : w.cell? ((⟨g, o, none⟩ : Addr).add j) = some u := by
  have hj : j < l.length * 7 := by have := (List.getElem?_eq_some_iff.1 hu).1; rwa [cellsE_len] at this
  have e : j = j / 7 * 7 + j % 7 := by omega
  have h1 := cellsE_at l (j / 7) (by omega) (j % 7) (by omega)
  rw [← e, hu] at h1
  have h2 := h (j / 7) (by omega)
  rw [add_mk]
  have e2 : o + j = o + j / 7 * 7 + j % 7 := by omega
  rw [e2]
  have h4 : j % 7 < 7 := by omega
  generalize j % 7 = k at h1 h4 ⊢
  match k, h4 with
  | 0, _ => exact h2.c0.trans h1.symm
  | 1, _ => exact h2.c1.trans h1.symm
  | 2, _ => exact h2.c2.trans h1.symm
  | 3, _ => exact h2.c3.trans h1.symm
  | 4, _ => exact h2.c4.trans h1.symm
  | 5, _ => exact h2.c5.trans h1.symm
  | 6, _ => exact h2.c6.trans h1.symm
theorem cellsE_one (l : List Ent) : ∀ u ∈ cellsE l, u.oneCell' = true := by
  intro u hu
  obtain ⟨x, _, hx⟩ := List.mem_flatMap.1 hu
  simp only [entC, List.mem_cons, List.not_mem_nil, or_false] at hx
  rcases hx with rfl | rfl | rfl | rfl | rfl | rfl | rfl <;> rfl
/-- append onto a row of the call's own, the source nil, empty or not -/
theorem wp_appE {t : TypeId} (ht : Tryd.prog.underlying t = some (.slice 85)) {w : World} {o : Oper} {a : Act} {K : Act → World → Prop} {Q : Exit → Act → World → Prop} (s x : Operand)
    (ho : o.op = .call { callee := .builtin .append, args := #[s, x], argTypes := #[t, t] })
    (base : Nat) (v : Value) (l0 : List Ent) (hs : a.eval s = v) (hown : OwnE base w v l0) (B : Nat) (sv : Value) (l : List Ent) (hx : a.eval x = sv) (hsrc : SrcE B w sv l)
    (hlen : l0.length + l.length ≤ 100000000000) (hbase : base ≤ w.heap.size)
    (h : ∀ v' w', OwnE base w' v' (l0 ++ l) → Below base w w' → w.grownBy w' v.ownBlock → K (a.put o.dst v') w') : o.wp Tryd.prog a w K Q := by
  obtain ⟨i0, hi, hz0, hz1, hz2⟩ := info_parts infoE
  rcases hsrc with ⟨rfl, rfl⟩ | ⟨g, of, c, rfl, _, hc⟩
  · have hrun := run_append_owned_none (P := Tryd.prog) (w := w) base t o.type 85 i0 7 ht hi v l0.length _ hown.row
    unfold Oper.wp execOp
    simp only [ho, resolve, invoke, builtin, Sem.run_bind, Sem.run_pure, Result.andThen_ok, List.map_toArray, List.map_cons, List.map_nil, hs, hx, hrun]
    exact h v w (by rw [List.append_nil]; exact hown) (Below.refl _ _) (World.grownBy.refl _ _)
  · refine wp_append_own w s x t ho base 85 i0 _ 7 56 ht hi hz0 hz1 hz2 rfl (by omega) v l0.length _ hs hown.row ⟨g, of, none⟩ l.length c (cellsE l) hx (by rw [cellsE_len]) ?_ (cellsE_one l) (by unfold maxLen; omega) (by omega) hbase ?_
    · exact fun j u hu => SrcE.cell hc j u hu
    · intro v' w' h1 h2 _
      refine h v' w' (OwnE.of h1 (by rw [cellsE_app])) ((Below.refl base w).grown h2 hbase (fun k hk => (hown.row.lt k hk).1)) h2
theorem wpList_appE {t : TypeId} (ht : Tryd.prog.underlying t = some (.slice 85)) {w : World} {ops : Array Oper} {rest : List Oper} {o : Oper} {a : Act} {Q : Exit → Act → World → Prop} (hgd : o.guard = none) (s x : Operand)
    (ho : o.op = .call { callee := .builtin .append, args := #[s, x], argTypes := #[t, t] })
    (base : Nat) (v : Value) (l0 : List Ent) (hs : a.eval s = v) (hown : OwnE base w v l0) (B : Nat) (sv : Value) (l : List Ent) (hx : a.eval x = sv) (hsrc : SrcE B w sv l)
    (hlen : l0.length + l.length ≤ 100000000000) (hbase : base ≤ w.heap.size)
    (h : ∀ v' w', OwnE base w' v' (l0 ++ l) → Below base w w' → w.grownBy w' v.ownBlock → wpList Tryd.prog ops Q rest (a.put o.dst v') w') : wpList Tryd.prog ops Q (o :: rest) a w :=
  wpList_plain hgd fun _ hK => wp_appE ht s x ho base v l0 hs hown B sv l hx hsrc hlen hbase fun v' w' h2 h3 h4 => hK _ _ (h v' w' h2 h3 h4)
theorem step_appE {t : TypeId} (ht : Tryd.prog.underlying t = some (.slice 85)) {w : World} {ops : Array Oper} {o : Oper} {a : Act} {K : Act → World → Prop} {Q : Exit → Act → World → Prop} {E : Prop} (hgd : o.guard = none) (s x : Operand)
    (ho : o.op = .call { callee := .builtin .append, args := #[s, x], argTypes := #[t, t] })
    (base : Nat) (v : Value) (l0 : List Ent) (hs : a.eval s = v) (hown : OwnE base w v l0) (B : Nat) (sv : Value) (l : List Ent) (hx : a.eval x = sv) (hsrc : SrcE B w sv l)
    (hlen : l0.length + l.length ≤ 100000000000) (hbase : base ≤ w.heap.size)
    (h : ∀ v' w', OwnE base w' v' (l0 ++ l) → Below base w w' → w.grownBy w' v.ownBlock → K (a.put o.dst v') w') :
    if Region.wanted o (yielded ops a.tmps) = true then Oper.wp Tryd.prog o a w K Q else E := by
  rw [if_pos (by simp [Region.wanted, hgd])]
  exact wp_appE ht s x ho base v l0 hs hown B sv l hx hsrc hlen hbase h
/-- append onto a slice that has no room: a new row -/
theorem step_growE {t : TypeId} (ht : Tryd.prog.underlying t = some (.slice 85)) {w : World} {ops : Array Oper} {o : Oper} {a : Act} {K : Act → World → Prop} {Q : Exit → Act → World → Prop} {E : Prop} (hgd : o.guard = none) (s x : Operand)
    (ho : o.op = .call { callee := .builtin .append, args := #[s, x], argTypes := #[t, t] })
    (ao : Option Addr) (l0 : List Ent) (hs : a.eval s = .slice ao l0.length l0.length) (hat : AtE w ao l0) (hnone : ao = none → l0 = []) (B : Nat) (sv : Value) (y : Ent) (hx : a.eval x = sv) (hsrc : SrcE B w sv [y])
    (hlen : l0.length ≤ 10000000000)
    (h : ∀ v' w', OwnE w.heap.size w' v' (l0 ++ [y]) → Below w.heap.size w w' → K (a.put o.dst v') w') :
    if Region.wanted o (yielded ops a.tmps) = true then Oper.wp Tryd.prog o a w K Q else E := by
  obtain ⟨i0, hi, hz0, hz1, hz2⟩ := info_parts infoE
  rcases hsrc with ⟨_, h0⟩ | ⟨g, of, c, rfl, _, hc⟩
  · cases h0
  · refine step_append_grows hgd s x t ho 85 i0 _ 7 56 ht hi hz0 hz1 hz2 rfl (by omega) ao l0.length l0.length (cellsE l0) hs (fun h => by have := hnone h; subst this; exact ⟨rfl, rfl⟩) (by rw [cellsE_len]) ?_ ⟨g, of, none⟩ 1 c (cellsE [y]) hx (by rw [cellsE_len]; rfl) ?_ (cellsE_one _) (by omega) (by unfold maxLen; omega) (by omega) ?_
    · intro b hb j u hu
      by_cases h0 : 0 < l0.length
      · obtain ⟨g', o', hx', _, _⟩ := hat 0 h0
        have hall : ∀ j, j < l0.length → EntAt w g' (o' + j * 7) (gE l0 j) := fun j hj => by
          obtain ⟨g2, o2, e2, _, h2⟩ := hat j hj
          rw [hx'] at e2
          cases e2
          exact h2
        rw [hx'] at hb
        cases hb
        exact SrcE.cell hall j u hu
      · have : l0 = [] := List.eq_nil_of_length_eq_zero (by omega)
        subst this
        simp [cellsE] at hu
    · exact fun j u hu => SrcE.cell hc j u hu
    · intro v' w' h1 h2
      exact h v' w' (OwnE.of h1 (by rw [cellsE_app])) ⟨h2.os, h2.tape, h2.output, h2.size, fun k hk => h2.block k hk (by simp)⟩
end Go.Proofs.YtkkgonkpmdlelaaDoor.kit
