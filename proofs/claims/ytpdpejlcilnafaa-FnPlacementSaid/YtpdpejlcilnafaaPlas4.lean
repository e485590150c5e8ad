/-
  Rows of Place: append onto a row of the call's own, onto a slice without room; what a source slice reads as. Written by tools/gen_rows.py.
-/
import Derived.Test.YtpdpejlcilnafaaPlas2
import Derived.Deep.RegionLaw
import Derived.Deep.RegionLawGrows
namespace Go.Proofs.Ytpdpejlcilnafaa.kit
open Go.ChangeShapes Go.WideShapes Go.ChangeAt Go.RowKit
set_option linter.unusedVariables false

/-- the slice value sv reads as the list l, below block B -/
def SrcQ (B : Nat) (w : World) (sv : Value) (l : List Pla) : Prop :=
  (sv = .slice none 0 0 ∧ l = []) ∨ ∃ g o c, sv = .slice (some ⟨g, o, none⟩) l.length c ∧ g < B ∧ ∀ j, j < l.length → PlaAt w g (o + j * 3) (gQ l j)
theorem SrcQ.below {B B' : Nat} {w w' : World} {sv : Value} {l : List Pla} (h : SrcQ B w sv l) (hb : Below B' w w') (hB : B ≤ B') : SrcQ B w' sv l := by
  rcases h with h | ⟨g, o, c, h1, h2, h3⟩
  · exact .inl h
  · exact .inr ⟨g, o, c, h1, h2, fun j hj => (h3 j hj).below hb (Nat.lt_of_lt_of_le h2 hB)⟩
theorem SrcQ.own {b : Nat} {w : World} {v : Value} {l : List Pla} (h : OwnQ b w v l) : SrcQ w.heap.size w v l := by
  rcases h.2 with ⟨rfl, h0⟩ | ⟨g, c, cur, rfl, hg, hh, hn, hm, hr⟩
  · exact .inl ⟨rfl, List.eq_nil_of_length_eq_zero h0⟩
  · exact .inr ⟨g, 0, c, rfl, (Array.getElem?_eq_some_iff.1 hh).1, fun j hj => by rw [Nat.zero_add]; exact h.at j hj⟩
theorem SrcQ.lit (w : World) (r : Int) (c : Int) (l : Int) : SrcQ (w.heap.size + 1) (w.alloc (.cells #[.int .i64 r, .int .i64 c, .int .i64 l] 61)) (.slice (some ⟨w.heap.size, 0, none⟩) 1 1) [⟨r, c, l⟩] := by
  refine .inr ⟨w.heap.size, 0, 1, rfl, by omega, fun j hj => ?_⟩
  obtain rfl : j = 0 := by simpa using hj
  exact plaAt_of (fun k hk => by rw [World.cell?_alloc_at _ _ _ _ rfl]; match k, hk with | 0, _ => rfl | 1, _ => rfl | 2, _ => rfl)
theorem SrcQ.cell {w : World} {g o : Nat} {l : List Pla} (h : ∀ j, j < l.length → PlaAt w g (o + j * 3) (gQ l j)) (j : Nat) (u : Value) (hu : (cellsQ l)[j]? = some u) : w.cell? ((⟨g, o, none⟩ : Addr).add j) = some u := by
  have hj : j < l.length * 3 := by have := (List.getElem?_eq_some_iff.1 hu).1; rwa [cellsQ_len] at this
  have e : j = j / 3 * 3 + j % 3 := by omega
  have h1 := cellsQ_at l (j / 3) (by omega) (j % 3) (by omega)
  rw [← e, hu] at h1
  have h2 := h (j / 3) (by omega)
  rw [add_mk]
  have e2 : o + j = o + j / 3 * 3 + j % 3 := by omega
  rw [e2]
  have h4 : j % 3 < 3 := by omega
  generalize j % 3 = k at h1 h4 ⊢
  match k, h4 with
  | 0, _ => exact h2.c0.trans h1.symm
  | 1, _ => exact h2.c1.trans h1.symm
  | 2, _ => exact h2.c2.trans h1.symm
theorem cellsQ_one (l : List Pla) : ∀ u ∈ cellsQ l, u.oneCell' = true := by
  intro u hu
  obtain ⟨x, _, hx⟩ := List.mem_flatMap.1 hu
  simp only [plaC, List.mem_cons, List.not_mem_nil, or_false] at hx
  rcases hx with rfl | rfl | rfl <;> rfl
/-- append onto a row of the call's own, the source nil, empty or not -/
theorem wp_appQ {t : TypeId} (ht : Try.prog.underlying t = some (.slice 61)) {w : World} {o : Oper} {a : Act} {K : Act → World → Prop} {Q : Exit → Act → World → Prop} (s x : Operand)
    (ho : o.op = .call { callee := .builtin .append, args := #[s, x], argTypes := #[t, t] })
    (base : Nat) (v : Value) (l0 : List Pla) (hs : a.eval s = v) (hown : OwnQ base w v l0) (B : Nat) (sv : Value) (l : List Pla) (hx : a.eval x = sv) (hsrc : SrcQ B w sv l)
    (hlen : l0.length + l.length ≤ 100000000000) (hbase : base ≤ w.heap.size)
    (h : ∀ v' w', OwnQ base w' v' (l0 ++ l) → Below base w w' → w.grownBy w' v.ownBlock → K (a.put o.dst v') w') : o.wp Try.prog a w K Q := by
  obtain ⟨i0, hi, hz0, hz1, hz2⟩ := info_parts infoQ
  rcases hsrc with ⟨rfl, rfl⟩ | ⟨g, of, c, rfl, _, hc⟩
  · have hrun := run_append_owned_none (P := Try.prog) (w := w) base t o.type 61 i0 3 ht hi v l0.length _ hown.row
    unfold Oper.wp execOp
    simp only [ho, resolve, invoke, builtin, Sem.run_bind, Sem.run_pure, Result.andThen_ok, List.map_toArray, List.map_cons, List.map_nil, hs, hx, hrun]
    exact h v w (by rw [List.append_nil]; exact hown) (Below.refl _ _) (World.grownBy.refl _ _)
  · refine wp_append_own w s x t ho base 61 i0 _ 3 24 ht hi hz0 hz1 hz2 rfl (by omega) v l0.length _ hs hown.row ⟨g, of, none⟩ l.length c (cellsQ l) hx (by rw [cellsQ_len]) ?_ (cellsQ_one l) (by unfold maxLen; omega) (by omega) hbase ?_
    · exact fun j u hu => SrcQ.cell hc j u hu
    · intro v' w' h1 h2 _
      refine h v' w' (OwnQ.of h1 (by rw [cellsQ_app])) ((Below.refl base w).grown h2 hbase (fun k hk => (hown.row.lt k hk).1)) h2
theorem wpList_appQ {t : TypeId} (ht : Try.prog.underlying t = some (.slice 61)) {w : World} {ops : Array Oper} {rest : List Oper} {o : Oper} {a : Act} {Q : Exit → Act → World → Prop} (hgd : o.guard = none) (s x : Operand)
    (ho : o.op = .call { callee := .builtin .append, args := #[s, x], argTypes := #[t, t] })
    (base : Nat) (v : Value) (l0 : List Pla) (hs : a.eval s = v) (hown : OwnQ base w v l0) (B : Nat) (sv : Value) (l : List Pla) (hx : a.eval x = sv) (hsrc : SrcQ B w sv l)
    (hlen : l0.length + l.length ≤ 100000000000) (hbase : base ≤ w.heap.size)
    (h : ∀ v' w', OwnQ base w' v' (l0 ++ l) → Below base w w' → w.grownBy w' v.ownBlock → wpList Try.prog ops Q rest (a.put o.dst v') w') : wpList Try.prog ops Q (o :: rest) a w :=
  wpList_plain hgd fun _ hK => wp_appQ ht s x ho base v l0 hs hown B sv l hx hsrc hlen hbase fun v' w' h2 h3 h4 => hK _ _ (h v' w' h2 h3 h4)
theorem step_appQ {t : TypeId} (ht : Try.prog.underlying t = some (.slice 61)) {w : World} {ops : Array Oper} {o : Oper} {a : Act} {K : Act → World → Prop} {Q : Exit → Act → World → Prop} {E : Prop} (hgd : o.guard = none) (s x : Operand)
    (ho : o.op = .call { callee := .builtin .append, args := #[s, x], argTypes := #[t, t] })
    (base : Nat) (v : Value) (l0 : List Pla) (hs : a.eval s = v) (hown : OwnQ base w v l0) (B : Nat) (sv : Value) (l : List Pla) (hx : a.eval x = sv) (hsrc : SrcQ B w sv l)
    (hlen : l0.length + l.length ≤ 100000000000) (hbase : base ≤ w.heap.size)
    (h : ∀ v' w', OwnQ base w' v' (l0 ++ l) → Below base w w' → w.grownBy w' v.ownBlock → K (a.put o.dst v') w') :
    if Region.wanted o (yielded ops a.tmps) = true then Oper.wp Try.prog o a w K Q else E := by
  rw [if_pos (by simp [Region.wanted, hgd])]
  exact wp_appQ ht s x ho base v l0 hs hown B sv l hx hsrc hlen hbase h
/-- append onto a slice that has no room: a new row -/
theorem step_growQ {t : TypeId} (ht : Try.prog.underlying t = some (.slice 61)) {w : World} {ops : Array Oper} {o : Oper} {a : Act} {K : Act → World → Prop} {Q : Exit → Act → World → Prop} {E : Prop} (hgd : o.guard = none) (s x : Operand)
    (ho : o.op = .call { callee := .builtin .append, args := #[s, x], argTypes := #[t, t] })
    (ao : Option Addr) (l0 : List Pla) (hs : a.eval s = .slice ao l0.length l0.length) (hat : AtQ w ao l0) (hnone : ao = none → l0 = []) (B : Nat) (sv : Value) (y : Pla) (hx : a.eval x = sv) (hsrc : SrcQ B w sv [y])
    (hlen : l0.length ≤ 10000000000)
    (h : ∀ v' w', OwnQ w.heap.size w' v' (l0 ++ [y]) → Below w.heap.size w w' → K (a.put o.dst v') w') :
    if Region.wanted o (yielded ops a.tmps) = true then Oper.wp Try.prog o a w K Q else E := by
  obtain ⟨i0, hi, hz0, hz1, hz2⟩ := info_parts infoQ
  rcases hsrc with ⟨_, h0⟩ | ⟨g, of, c, rfl, _, hc⟩
  · cases h0
  · refine step_append_grows hgd s x t ho 61 i0 _ 3 24 ht hi hz0 hz1 hz2 rfl (by omega) ao l0.length l0.length (cellsQ l0) hs (fun h => by have := hnone h; subst this; exact ⟨rfl, rfl⟩) (by rw [cellsQ_len]) ?_ ⟨g, of, none⟩ 1 c (cellsQ [y]) hx (by rw [cellsQ_len]; rfl) ?_ (cellsQ_one _) (by omega) (by unfold maxLen; omega) (by omega) ?_
    · intro b hb j u hu
      by_cases h0 : 0 < l0.length
      · obtain ⟨g', o', hx', _, _⟩ := hat 0 h0
        have hall : ∀ j, j < l0.length → PlaAt w g' (o' + j * 3) (gQ l0 j) := fun j hj => by
          obtain ⟨g2, o2, e2, _, h2⟩ := hat j hj
          rw [hx'] at e2
          cases e2
          exact h2
        rw [hx'] at hb
        cases hb
        exact SrcQ.cell hall j u hu
      · have : l0 = [] := List.eq_nil_of_length_eq_zero (by omega)
        subst this
        simp [cellsQ] at hu
    · exact fun j u hu => SrcQ.cell hc j u hu
    · intro v' w' h1 h2
      exact h v' w' (OwnQ.of h1 (by rw [cellsQ_app])) ⟨h2.os, h2.tape, h2.output, h2.size, fun k hk => h2.block k hk (by simp)⟩
end Go.Proofs.Ytpdpejlcilnafaa.kit
