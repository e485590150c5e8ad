/-
  Rows of sessions: append onto a row of the call's own; what a source slice reads as.
-/
import Derived.Test.YtgjebjoaemeeoaaGreatDoorMach
import Derived.Deep.RegionLaw
namespace Go.Proofs.YtgjebjoaemeeoaaGreatDoor.kit
open Go.ChangeShapes Go.WideShapes Go.ChangeAt Go.RowKit
set_option linter.unusedVariables false

/-- the slice value sv reads as the sessions l, below block B -/
def SrcS (B : Nat) (w : World) (sv : Value) (l : List Sess) : Prop :=
  (sv = .slice none 0 0 ∧ l = []) ∨ ∃ g o c, sv = .slice (some ⟨g, o, none⟩) l.length c ∧ g < B ∧ ∀ j, j < l.length → SessAt w g (o + j * 4) (sg l j)
theorem SrcS.below {B B' : Nat} {w w' : World} {sv : Value} {l : List Sess} (h : SrcS B w sv l) (hb : Below B' w w') (hB : B ≤ B') : SrcS B w' sv l := by
  rcases h with h | ⟨g, o, c, h1, h2, h3⟩
  · exact .inl h
  · exact .inr ⟨g, o, c, h1, h2, fun j hj => (h3 j hj).below hb (Nat.lt_of_lt_of_le h2 hB)⟩
theorem SrcS.mono {B B' : Nat} {w : World} {sv : Value} {l : List Sess} (h : SrcS B w sv l) (hB : B ≤ B') : SrcS B' w sv l :=
  h.imp id (fun ⟨g, o, c, h1, h2, h3⟩ => ⟨g, o, c, h1, Nat.lt_of_lt_of_le h2 hB, h3⟩)
theorem SrcS.own {b : Nat} {w : World} {v : Value} {l : List Sess} (h : OwnS b w v l) : SrcS w.heap.size w v l := by
  rcases h.2 with ⟨rfl, h0⟩ | ⟨g, c, cur, rfl, hg, hh, hn, hm, hr⟩
  · exact .inl ⟨rfl, List.eq_nil_of_length_eq_zero h0⟩
  · exact .inr ⟨g, 0, c, rfl, (Array.getElem?_eq_some_iff.1 hh).1, fun j hj => by rw [Nat.zero_add]; exact h.at j hj⟩
theorem SrcI.own {b : Nat} {w : World} {v : Value} {l : List Int} (h : OwnI b w v l) : SrcI w.heap.size w v l := by
  rcases h.2 with ⟨rfl, h0⟩ | ⟨g, c, cur, rfl, hg, hh, hn, hm, hr⟩
  · exact .inl ⟨rfl, List.eq_nil_of_length_eq_zero h0⟩
  · refine .inr ⟨⟨g, 0, none⟩, c, rfl, (Array.getElem?_eq_some_iff.1 hh).1, fun j hj => ?_⟩
    rw [add_mk, Nat.zero_add, h.row.cellAt j (by omega)]
    simp [List.getD, hj]
/-- a source slice: its shape, later, as an address -/
theorem SrcI.shape {B : Nat} {w : World} {v : Value} {l : List Int} (h : SrcI B w v l) : ∃ a c, v = .slice a l.length c := by
  rcases h with ⟨rfl, rfl⟩ | ⟨x, c, rfl, _⟩
  · exact ⟨_, _, rfl⟩
  · exact ⟨_, _, rfl⟩
theorem SrcS.shape {B : Nat} {w : World} {v : Value} {l : List Sess} (h : SrcS B w v l) : ∃ a c, v = .slice a l.length c := by
  rcases h with ⟨rfl, rfl⟩ | ⟨g, o, c, rfl, _⟩
  · exact ⟨_, _, rfl⟩
  · exact ⟨_, _, rfl⟩
theorem SrcI.up {B B' : Nat} {w : World} {v : Value} {l : List Int} (h : SrcI B w v l) (hB : B ≤ B') : SrcI B' w v l := by
  rcases h with h | ⟨x, c, h1, h2, h3⟩
  · exact .inl h
  · exact .inr ⟨x, c, h1, Nat.lt_of_lt_of_le h2 hB, h3⟩
theorem SrcI.srcLater {w w' : World} {v : Value} {l : List Int} (h : SrcI w.heap.size w v l) (hb : Below w.heap.size w w') : SrcI w'.heap.size w' v l := (h.below hb (Nat.le_refl _)).up hb.size
theorem SrcS.srcLater {w w' : World} {v : Value} {l : List Sess} (h : SrcS w.heap.size w v l) (hb : Below w.heap.size w w') : SrcS w'.heap.size w' v l := (h.below hb (Nat.le_refl _)).mono hb.size
theorem OwnI.srcLater {b : Nat} {w w' : World} {v : Value} {l : List Int} (h : OwnI b w v l) (hb : Below w.heap.size w w') : SrcI w'.heap.size w' v l := (SrcI.own h).srcLater hb
theorem OwnS.srcLater {b : Nat} {w w' : World} {v : Value} {l : List Sess} (h : OwnS b w v l) (hb : Below w.heap.size w w') : SrcS w'.heap.size w' v l := (SrcS.own h).srcLater hb
theorem SrcI.at {B : Nat} {w : World} {a : Option Addr} {n c : Nat} {l : List Int} (h : SrcI B w (.slice a n c) l) (hB : B ≤ w.heap.size) : At w a l := by
  rcases h with ⟨_, rfl⟩ | ⟨x, c', hv, hx, hc⟩
  · exact At.nil _ _
  · injection hv with h1
    subst h1
    exact fun j hj => ⟨x, rfl, Nat.lt_of_lt_of_le hx hB, hc j hj⟩
theorem SrcS.at {B : Nat} {w : World} {a : Option Addr} {n c : Nat} {l : List Sess} (h : SrcS B w (.slice a n c) l) (hB : B ≤ w.heap.size) : AtS w a l := by
  rcases h with ⟨_, rfl⟩ | ⟨g, o, c', hv, hg, hc⟩
  · exact AtS.nil _ _
  · injection hv with h1
    subst h1
    exact fun j hj => ⟨g, o, rfl, Nat.lt_of_lt_of_le hg hB, hc j hj⟩
/-- a part of such a slice -/
theorem SrcS.drop {B : Nat} {w : World} {g o c k : Nat} {l : List Sess} (hg : g < B) (h : ∀ j, j < l.length → SessAt w g (o + j * 4) (sg l j)) (hk : k ≤ l.length) {n o' c' : Nat} (hn : n = l.length - k) (ho : o' = o + k * 4) : SrcS B w (.slice (some ⟨g, o', none⟩) n c') (l.drop k) := by
  subst hn ho
  refine .inr ⟨g, o + k * 4, c', by rw [List.length_drop], hg, fun j hj => ?_⟩
  rw [List.length_drop] at hj
  have h1 := h (k + j) (by omega)
  have e1 : o + k * 4 + j * 4 = o + (k + j) * 4 := by omega
  have e2 : sg (l.drop k) j = sg l (k + j) := by simp [sg, List.getD]
  rw [e1, e2]; exact h1
theorem SrcS.take {B : Nat} {w : World} {g o k : Nat} {l : List Sess} (hg : g < B) (h : ∀ j, j < l.length → SessAt w g (o + j * 4) (sg l j)) (hk : k ≤ l.length) {c' : Nat} : SrcS B w (.slice (some ⟨g, o, none⟩) k c') (l.take k) := by
  have hl : (l.take k).length = k := by rw [List.length_take]; omega
  refine .inr ⟨g, o, c', by rw [hl], hg, fun j hj => ?_⟩
  rw [hl] at hj
  have e2 : sg (l.take k) j = sg l j := by simp [sg, List.getD, hj]
  rw [e2]; exact h j (by omega)
theorem SrcS.lit (w : World) (x : Sess) : SrcS (w.heap.size + 1) (w.alloc (.cells #[.int .i64 x.1, .int .i64 x.2.1, .bool x.2.2.1, .int .i64 x.2.2.2] 98)) (.slice (some ⟨w.heap.size, 0, none⟩) 1 1) [x] := by
  refine .inr ⟨w.heap.size, 0, 1, rfl, by omega, fun j hj => ?_⟩
  obtain rfl : j = 0 := by simpa using hj
  exact sessAt_of (fun k hk => by rw [World.cell?_alloc_at _ _ _ _ rfl]; match k, hk with | 0, _ => rfl | 1, _ => rfl | 2, _ => rfl | 3, _ => rfl)
theorem SrcS.cell {w : World} {g o : Nat} {l : List Sess} (h : ∀ j, j < l.length → SessAt w g (o + j * 4) (sg l j)) (j : Nat) (u : Value) (hu : (cellsS l)[j]? = some u) : w.cell? ((⟨g, o, none⟩ : Addr).add j) = some u := by
  have hj : j < l.length * 4 := by have := (List.getElem?_eq_some_iff.1 hu).1; rwa [cellsS_len] at this
  have e : j = j / 4 * 4 + j % 4 := by omega
  have h1 := cellsS_at l (j / 4) (by omega) (j % 4) (by omega)
  rw [← e, hu] at h1
  have h2 := h (j / 4) (by omega)
  rw [add_mk]
  have e2 : o + j = o + j / 4 * 4 + j % 4 := by omega
  rw [e2]
  have h4 : j % 4 < 4 := by omega
  generalize j % 4 = k at h1 h4 ⊢
  match k, h4 with
  | 0, _ => exact h2.c0.trans h1.symm
  | 1, _ => exact h2.c1.trans h1.symm
  | 2, _ => exact h2.c2.trans h1.symm
  | 3, _ => exact h2.c3.trans h1.symm
theorem cellsS_one (l : List Sess) : ∀ u ∈ cellsS l, u.oneCell' = true := by
  intro u hu
  obtain ⟨x, _, hx⟩ := List.mem_flatMap.1 hu
  simp only [sessC, List.mem_cons, List.not_mem_nil, or_false] at hx
  rcases hx with rfl | rfl | rfl | rfl <;> rfl
/-- append onto a row of the call's own, the source nil, empty or not -/
theorem wp_appS {w : World} {o : Oper} {a : Act} {K : Act → World → Prop} {Q : Exit → Act → World → Prop} (s x : Operand)
    (ho : o.op = .call { callee := .builtin .append, args := #[s, x], argTypes := #[42, 42] })
    (base : Nat) (v : Value) (l0 : List Sess) (hs : a.eval s = v) (hown : OwnS base w v l0) (B : Nat) (sv : Value) (l : List Sess) (hx : a.eval x = sv) (hsrc : SrcS B w sv l)
    (hlen : l0.length + l.length ≤ 100000000000) (hbase : base ≤ w.heap.size)
    (h : ∀ v' w', OwnS base w' v' (l0 ++ l) → Below base w w' → w.grownBy w' v.ownBlock → K (a.put o.dst v') w') : o.wp Tryz.prog a w K Q := by
  obtain ⟨i0, hi, hz0, hz1, hz2⟩ := info_parts infoSess
  rcases hsrc with ⟨rfl, rfl⟩ | ⟨g, of, c, rfl, _, hc⟩
  · have hrun := run_append_owned_none (P := Tryz.prog) (w := w) base 42 o.type 98 i0 4 Tryz.underlying42 hi v l0.length _ hown.row
    unfold Oper.wp execOp
    simp only [ho, resolve, invoke, builtin, Sem.run_bind, Sem.run_pure, Result.andThen_ok, List.map_toArray, List.map_cons, List.map_nil, hs, hx, hrun]
    exact h v w (by rw [List.append_nil]; exact hown) (Below.refl _ _) (World.grownBy.refl _ _)
  · refine wp_append_own w s x 42 ho base 98 i0 _ 4 32 Tryz.underlying42 hi hz0 hz1 hz2 rfl (by omega) v l0.length _ hs hown.row ⟨g, of, none⟩ l.length c (cellsS l) hx (by rw [cellsS_len]) ?_ (cellsS_one l) (by unfold maxLen; omega) (by omega) hbase ?_
    · exact fun j u hu => SrcS.cell hc j u hu
    · intro v' w' h1 h2 _
      refine h v' w' (OwnS.of h1 (by rw [cellsS_app])) ((Below.refl base w).grown h2 hbase (fun k hk => (hown.row.lt k hk).1)) h2
theorem wpList_appS {w : World} {ops : Array Oper} {rest : List Oper} {o : Oper} {a : Act} {Q : Exit → Act → World → Prop} (hgd : o.guard = none) (s x : Operand)
    (ho : o.op = .call { callee := .builtin .append, args := #[s, x], argTypes := #[42, 42] })
    (base : Nat) (v : Value) (l0 : List Sess) (hs : a.eval s = v) (hown : OwnS base w v l0) (B : Nat) (sv : Value) (l : List Sess) (hx : a.eval x = sv) (hsrc : SrcS B w sv l)
    (hlen : l0.length + l.length ≤ 100000000000) (hbase : base ≤ w.heap.size)
    (h : ∀ v' w', OwnS base w' v' (l0 ++ l) → Below base w w' → w.grownBy w' v.ownBlock → wpList Tryz.prog ops Q rest (a.put o.dst v') w') : wpList Tryz.prog ops Q (o :: rest) a w :=
  wpList_plain hgd fun _ hK => wp_appS s x ho base v l0 hs hown B sv l hx hsrc hlen hbase fun v' w' h2 h3 h4 => hK _ _ (h v' w' h2 h3 h4)
theorem step_appS {w : World} {ops : Array Oper} {o : Oper} {a : Act} {K : Act → World → Prop} {Q : Exit → Act → World → Prop} {E : Prop} (hgd : o.guard = none) (s x : Operand)
    (ho : o.op = .call { callee := .builtin .append, args := #[s, x], argTypes := #[42, 42] })
    (base : Nat) (v : Value) (l0 : List Sess) (hs : a.eval s = v) (hown : OwnS base w v l0) (B : Nat) (sv : Value) (l : List Sess) (hx : a.eval x = sv) (hsrc : SrcS B w sv l)
    (hlen : l0.length + l.length ≤ 100000000000) (hbase : base ≤ w.heap.size)
    (h : ∀ v' w', OwnS base w' v' (l0 ++ l) → Below base w w' → w.grownBy w' v.ownBlock → K (a.put o.dst v') w') :
    if Region.wanted o (yielded ops a.tmps) = true then Oper.wp Tryz.prog o a w K Q else E := by
  rw [if_pos (by simp [Region.wanted, hgd])]
  exact wp_appS s x ho base v l0 hs hown B sv l hx hsrc hlen hbase h
theorem ownS_new (w : World) (base : Nat) (hb : base ≤ w.heap.size) : OwnS base (w.alloc (.cells #[] 98)) (.slice (some ⟨w.heap.size, 0, none⟩) 0 0) [] := World.ownsRow_lit w #[] 0 hb (Nat.zero_le _) rfl
theorem ownI_new (w : World) (base : Nat) (hb : base ≤ w.heap.size) : OwnI base (w.alloc (.cells #[] 3)) (.slice (some ⟨w.heap.size, 0, none⟩) 0 0) [] := World.ownsRow_lit w #[] 0 hb (Nat.zero_le _) rfl
end Go.Proofs.YtgjebjoaemeeoaaGreatDoor.kit
