/-
  Slices of ints: how a slice reads as a list; a row of the call's own; the laws' helpers that copy, compare, mark and check such slices.
-/
import Derived.Test.YtgjebjoaemeeoaaC1Fixed
import Derived.IntWalk
import Derived.Handy
import Derived.OwnWalk
namespace Go.Proofs.Ytgjebjoaemeeoaa.kit
open Go.ChangeShapes Go.WideShapes Go.ChangeAt Go.RowKit
set_option linter.unusedVariables false

/-- the address a leads to the ints l -/
def At (w : World) (a : Option Addr) (l : List Int) : Prop := ∀ j, j < l.length → ∃ x : Addr, a = some x ∧ x.block < w.heap.size ∧ w.cell? (x.add j) = some (.int .i64 (l.getD j 0))
theorem At.nil (w : World) (a : Option Addr) : At w a [] := fun j h => by simp at h
theorem At.below {w w' : World} {a : Option Addr} {l : List Int} {B : Nat} (h : At w a l) (hb : Below B w w') (hB : ∀ x, a = some x → 0 < l.length → x.block < B) : At w' a l := fun j hj => by
  obtain ⟨x, hx, hlt, hc⟩ := h j hj
  have hxB := hB x hx (by omega)
  exact ⟨x, hx, Nat.lt_of_lt_of_le hlt hb.size, (hb.cell (p := x.add j) (by unfold Addr.add; split <;> exact hxB)).trans hc⟩
theorem At.later {w w' : World} {a : Option Addr} {l : List Int} (h : At w a l) (hb : Below w.heap.size w w') : At w' a l :=
  h.below hb (fun x hx h0 => by obtain ⟨x', hx', hlt, _⟩ := h 0 h0; rw [hx] at hx'; cases hx'; exact hlt)
/-- a []int that came in reads as a list -/
theorem IsRow.list {w : World} {a : Option Addr} {len cap : Nat} {zs : List Int} (h : IsRow .i64 w a len cap zs) : ∃ L : List Int, len = L.length ∧ At w a L := by
  rcases h with ⟨_, rfl, _, _⟩ | ⟨x, rfl, h1, h2, h3, h4, _⟩
  · exact ⟨[], rfl, At.nil _ _⟩
  · have hn : (zs.take len).length = len := by rw [List.length_take, h3]; omega
    refine ⟨zs.take len, hn.symm, fun j hj => ⟨x, rfl, ?_, ?_⟩⟩
    · have hb := World.block_lt_of_cell? w _ (h4 j (by omega))
      have e : (x.add j).block = x.block := by unfold Addr.add; split <;> rfl
      rw [e] at hb; exact hb
    · rw [h4 j (by omega)]
      have hj' : j < len := by omega
      simp [List.getD, hj']
theorem At.drewN {w : World} {a : Option Addr} {l : List Int} (h : At w a l) (q : Nat) : At (w.drewN q) a l := h
/-- the slice value v is the call's own row of the ints l -/
def OwnI (base : Nat) (w : World) (v : Value) (l : List Int) : Prop := w.ownsRow base 3 1 v l.length (l.map (Value.int .i64))
theorem OwnI.row {base : Nat} {w : World} {v : Value} {l : List Int} (h : OwnI base w v l) : w.ownsRow base 3 1 v l.length (l.map (Value.int .i64)) := h
theorem OwnI.form {base : Nat} {w : World} {v : Value} {l : List Int} (h : OwnI base w v l) : ∃ a cap, v = .slice a l.length cap ∧ l.length ≤ cap ∧ cap ≤ maxLen ∧ At w a l ∧ (∀ x, a = some x → base ≤ x.block ∧ x.block < w.heap.size) := by
  rcases h.2 with ⟨rfl, h0⟩ | ⟨g, c, cur, rfl, hg, hh, hn, hm, _⟩
  · obtain rfl := List.eq_nil_of_length_eq_zero h0
    exact ⟨none, 0, rfl, Nat.le_refl _, Nat.zero_le _, At.nil _ _, fun x hx => by cases hx⟩
  · have hlt : g < w.heap.size := (Array.getElem?_eq_some_iff.1 hh).1
    refine ⟨_, _, rfl, hn, hm, fun j hj => ⟨_, rfl, hlt, ?_⟩, fun x hx => by cases hx; exact ⟨hg, hlt⟩⟩
    have := h.row.cellAt j (by omega)
    have hadd : (⟨g, 0, none⟩ : Addr).add j = ⟨g, j, none⟩ := by unfold Addr.add; split <;> simp_all
    rw [hadd, this]
    simp [List.getD, hj]
theorem OwnI.there {base : Nat} {w : World} {v : Value} {l : List Int} (h : OwnI base w v l) (h0 : 0 < l.length) : ∃ g cap, v = .slice (some ⟨g, 0, none⟩) l.length cap ∧ l.length ≤ cap ∧ cap ≤ maxLen ∧ base ≤ g ∧ g < w.heap.size := by
  rcases h.2 with ⟨rfl, h1⟩ | ⟨g, c, cur, rfl, hg, hh, hn, hm, _⟩
  · omega
  · exact ⟨g, c, rfl, hn, hm, hg, (Array.getElem?_eq_some_iff.1 hh).1⟩
theorem OwnI.mono {base base' : Nat} {w : World} {v : Value} {l : List Int} (h : OwnI base w v l) (hb : base' ≤ base) : OwnI base' w v l :=
  ⟨h.1, h.2.imp id (fun ⟨g, c, cur, hv, hg, r⟩ => ⟨g, c, cur, hv, by omega, r⟩)⟩
theorem OwnI.later {base : Nat} {w w' : World} {v : Value} {l : List Int} (h : OwnI base w v l) (hb : Below w.heap.size w w') : OwnI base w' v l :=
  h.row.kept (row := none) ⟨hb.os, hb.tape, hb.output, hb.size, fun k hk _ => hb.block k hk⟩ (by cases hv : v.ownBlock <;> simp)
theorem OwnI.snoc {base : Nat} {w : World} {v : Value} {l : List Int} {x : Int} (h : w.ownsRow base 3 1 v (l.length + 1) (l.map (Value.int .i64) ++ [.int .i64 x])) : OwnI base w v (l ++ [x]) := by
  simpa [OwnI] using h
theorem OwnI.of {base : Nat} {w : World} {v : Value} {l : List Int} {n : Nat} {cs : List Value} (h : w.ownsRow base 3 1 v n cs) (hc : cs = l.map (Value.int .i64)) : OwnI base w v l := by
  subst hc
  have hn : n = l.length := by have := h.1; simpa using this.symm
  subst hn
  exact h
theorem gtrans {a b c : World} {row : Option Nat} (h : a.grownBy b row) (k : b.grownBy c row) : a.grownBy c row :=
  ⟨k.os.trans h.os, k.tape.trans h.tape, k.output.trans h.output, Nat.le_trans h.size k.size, fun i hi hne => (k.block i (Nat.lt_of_lt_of_le hi h.size) hne).trans (h.block i hi hne)⟩
theorem drewN2 (w : World) (q n : Nat) : (w.drewN q).drewN n = w.drewN (q + n) := by simp [World.drewN, Nat.add_assoc]
/-- nothing but draws lies between the two worlds -/
def Drawn (w w' : World) : Prop := ∃ q, w' = w.drewN q
theorem Drawn.refl (w : World) : Drawn w w := ⟨0, rfl⟩
theorem Drawn.more {w w' : World} (h : Drawn w w') (n : Nat) : Drawn w (w'.drewN n) := by obtain ⟨q, rfl⟩ := h; exact ⟨_, drewN2 _ _ _⟩
theorem Drawn.trans {a b c : World} (h : Drawn a b) (k : Drawn b c) : Drawn a c := by obtain ⟨q, rfl⟩ := k; exact h.more q
theorem Drawn.cell {w w' : World} (h : Drawn w w') {a : Addr} {v : Value} (hc : w.cell? a = some v) : w'.cell? a = some v := by obtain ⟨q, rfl⟩ := h; exact hc
theorem Drawn.below {w w' : World} (h : Drawn w w') (B : Nat) : Below B w w' := by obtain ⟨q, rfl⟩ := h; exact below_drewN (Below.refl _ _) q
theorem infoI : (Try.prog.info? 3).map (fun i => (i.zero, i.size, i.bytes)) = some (some (.int .i64 0), 1, 8) := by kernel_rfl
theorem getD_take {l : List Int} {n j : Nat} (h : j < n) : (l.take n).getD j 0 = l.getD j 0 := by simp [List.getD, h]
theorem take_snocI (l : List Int) (k : Nat) (h : k < l.length) : l.take (k + 1) = l.take k ++ [l.getD k 0] := by
  rw [List.take_succ_eq_append_getElem h]; simp [List.getD, h]

/-- the slice value sv reads as the ints l, below block B -/
def SrcI (B : Nat) (w : World) (sv : Value) (l : List Int) : Prop :=
  (sv = .slice none 0 0 ∧ l = []) ∨ ∃ ad c, sv = .slice (some ad) l.length c ∧ ad.block < B ∧ ∀ j, j < l.length → w.cell? (ad.add j) = some (.int .i64 (l.getD j 0))
theorem SrcI.below {B B' : Nat} {w w' : World} {sv : Value} {l : List Int} (h : SrcI B w sv l) (hb : Below B' w w') (hB : B ≤ B') : SrcI B w' sv l := by
  rcases h with h | ⟨ad, c, h1, h2, h3⟩
  · exact .inl h
  · exact .inr ⟨ad, c, h1, h2, fun j hj => (hb.cell (p := ad.add j) (by unfold Addr.add; split <;> exact Nat.lt_of_lt_of_le h2 hB)).trans (h3 j hj)⟩
theorem SrcI.row {w : World} {B g m : Nat} {c : Nat} {l : List Int} (hg : g < B) (hm : m = l.length) (h : ∀ j, j < l.length → w.cell? ⟨g, j, none⟩ = some (.int .i64 (l.getD j 0))) : SrcI B w (.slice (some ⟨g, 0, none⟩) m c) l := by
  subst hm
  exact .inr ⟨_, _, rfl, hg, fun j hj => by
    have e : (⟨g, 0, none⟩ : Addr).add j = ⟨g, j, none⟩ := by unfold Addr.add; split <;> simp_all
    rw [e]; exact h j hj⟩
theorem SrcI.part {w : World} {B g off m : Nat} {c : Nat} {l : List Int} (hg : g < B) (hm : m = l.length) (h : ∀ j, j < l.length → w.cell? ⟨g, off + j, none⟩ = some (.int .i64 (l.getD j 0))) : SrcI B w (.slice (some ⟨g, off, none⟩) m c) l := by
  subst hm
  exact .inr ⟨_, _, rfl, hg, fun j hj => by
    have e : (⟨g, off, none⟩ : Addr).add j = ⟨g, off + j, none⟩ := by unfold Addr.add; split <;> simp_all
    rw [e]; exact h j hj⟩
/-- a row of one number, just made -/
theorem SrcI.lit (w : World) (x : Int) : SrcI (w.heap.size + 1) (w.alloc (.cells #[.int .i64 x] 3)) (.slice (some ⟨w.heap.size, 0, none⟩) 1 1) [x] := by
  refine SrcI.row (by omega) rfl (fun j hj => ?_)
  obtain rfl : j = 0 := by simpa using hj
  have h : (w.alloc (.cells #[.int .i64 x] 3)).ownsRow 0 3 1 (.slice (some ⟨w.heap.size, 0, none⟩) 1 1) 1 [.int .i64 x] := World.ownsRow_lit w #[.int .i64 x] 1 (Nat.zero_le _) (by unfold maxLen; omega) rfl
  rw [h.cellAt 0 (by omega)]
  rfl
theorem SrcI.grown {B : Nat} {w w' : World} {sv : Value} {l : List Int} {row : Option Nat} (h : SrcI B w sv l) (hg : w.grownBy w' row) (hB : B ≤ w.heap.size) (hr : ∀ g ad n c, row = some g → sv = .slice (some ad) n c → ad.block ≠ g) : SrcI B w' sv l := by
  rcases h with h | ⟨ad, c, h1, h2, h3⟩
  · exact .inl h
  · refine .inr ⟨ad, c, h1, h2, fun j hj => ?_⟩
    have e : (ad.add j).block = ad.block := by unfold Addr.add; split <;> rfl
    refine (World.cell?_of_block ?_).trans (h3 j hj)
    rw [e]
    exact hg.block _ (by omega) (fun e => hr _ _ _ _ e.symm h1 rfl)
/-- append onto a row of the call's own, the source nil, empty or not -/
theorem wp_appI {w : World} {o : Oper} {a : Act} {K : Act → World → Prop} {Q : Exit → Act → World → Prop} (s x : Operand)
    (ho : o.op = .call { callee := .builtin .append, args := #[s, x], argTypes := #[24, 24] })
    (base : Nat) (v : Value) (l0 : List Int) (hs : a.eval s = v) (hown : OwnI base w v l0) (B : Nat) (sv : Value) (l : List Int) (hx : a.eval x = sv) (hsrc : SrcI B w sv l)
    (hlen : l0.length + l.length ≤ 1000000000000) (hbase : base ≤ w.heap.size)
    (h : ∀ v' w', OwnI base w' v' (l0 ++ l) → Below base w w' → w.grownBy w' v.ownBlock → K (a.put o.dst v') w') : o.wp Try.prog a w K Q := by
  obtain ⟨i0, hi, hz0, hz1, hz2⟩ := info_parts infoI
  rcases hsrc with ⟨rfl, rfl⟩ | ⟨ad, c, rfl, _, hc⟩
  · have hrun := run_append_owned_none (P := Try.prog) (w := w) base 24 o.type 3 i0 1 Try.underlying24 hi v l0.length _ hown.row
    unfold Oper.wp execOp
    simp only [ho, resolve, invoke, builtin, Sem.run_bind, Sem.run_pure, Result.andThen_ok, List.map_toArray, List.map_cons, List.map_nil, hs, hx, hrun]
    exact h v w (by rw [List.append_nil]; exact hown) (Below.refl _ _) (World.grownBy.refl _ _)
  · refine wp_append_own w s x 24 ho base 3 i0 (.int .i64 0) 1 8 Try.underlying24 hi hz0 hz1 hz2 rfl (by omega) v l0.length _ hs hown.row ad l.length c (l.map (Value.int .i64)) hx (by simp) ?_ ?_ (by unfold maxLen; omega) (by omega) hbase ?_
    · intro j u hu
      have hj : j < l.length := by
        have := (List.getElem?_eq_some_iff.1 hu).1
        simpa using this
      rw [List.getElem?_map, List.getElem?_eq_getElem hj] at hu
      have e := hc j hj
      rw [e]
      simpa [List.getD, hj] using hu
    · intro u hu
      obtain ⟨y, _, rfl⟩ := List.mem_map.1 hu
      rfl
    · intro v' w' h1 h2 _
      refine h v' w' (OwnI.of h1 (by rw [List.map_append])) ((Below.refl base w).grown h2 hbase (fun k hk => (hown.row.lt k hk).1)) h2
theorem wpList_appI {w : World} {ops : Array Oper} {rest : List Oper} {o : Oper} {a : Act} {Q : Exit → Act → World → Prop} (hgd : o.guard = none) (s x : Operand)
    (ho : o.op = .call { callee := .builtin .append, args := #[s, x], argTypes := #[24, 24] })
    (base : Nat) (v : Value) (l0 : List Int) (hs : a.eval s = v) (hown : OwnI base w v l0) (B : Nat) (sv : Value) (l : List Int) (hx : a.eval x = sv) (hsrc : SrcI B w sv l)
    (hlen : l0.length + l.length ≤ 1000000000000) (hbase : base ≤ w.heap.size)
    (h : ∀ v' w', OwnI base w' v' (l0 ++ l) → Below base w w' → w.grownBy w' v.ownBlock → wpList Try.prog ops Q rest (a.put o.dst v') w') : wpList Try.prog ops Q (o :: rest) a w :=
  wpList_plain hgd fun _ hK => wp_appI s x ho base v l0 hs hown B sv l hx hsrc hlen hbase fun v' w' h2 h3 h4 => hK _ _ (h v' w' h2 h3 h4)
theorem step_appI {w : World} {ops : Array Oper} {o : Oper} {a : Act} {K : Act → World → Prop} {Q : Exit → Act → World → Prop} {E : Prop} (hgd : o.guard = none) (s x : Operand)
    (ho : o.op = .call { callee := .builtin .append, args := #[s, x], argTypes := #[24, 24] })
    (base : Nat) (v : Value) (l0 : List Int) (hs : a.eval s = v) (hown : OwnI base w v l0) (B : Nat) (sv : Value) (l : List Int) (hx : a.eval x = sv) (hsrc : SrcI B w sv l)
    (hlen : l0.length + l.length ≤ 1000000000000) (hbase : base ≤ w.heap.size)
    (h : ∀ v' w', OwnI base w' v' (l0 ++ l) → Below base w w' → w.grownBy w' v.ownBlock → K (a.put o.dst v') w') :
    if Region.wanted o (yielded ops a.tmps) = true then Oper.wp Try.prog o a w K Q else E := by
  rw [if_pos (by simp [Region.wanted, hgd])]
  exact wp_appI s x ho base v l0 hs hown B sv l hx hsrc hlen hbase h

set_option maxRecDepth 100000 in
theorem toIntS_any (a : Option Addr) (c : Nat) (l : List Int) (w : World) (hl : l.length ≤ 4194304) (ha : At w a l) :
    Calls Try.prog 45 #[.slice a l.length c] w fun e w' => ∃ v, e = .returned v ∧ OwnI w.heap.size w' v l ∧ Below w.heap.size w w' := by
  have hmk : ∀ W : World, (Instr.makeSlice 24 (.int .i64 (l.length : Int)) (.int .i64 (l.length : Int))).run Try.prog W = .ok (.slice (some ⟨W.heap.size, 0, none⟩) l.length l.length) (W.alloc (.cells (madeCells #[.int .i64 0] l.length) 3)) := fun W =>
    run_make_row' 24 3 (.int .i64 0) 8 Try.underlying24 infoI rfl .i64 .i64 l.length (by omega) (by omega) W
  have HA := Lib.hid ha
  clear ha
  go_enter Try.func45, Try.ntmps45
  go_wp2_with fail
  clear hmk
  go_loopw [4] (fun i wr => ∃ k : Nat, k ≤ l.length ∧ i = .int .i64 k ∧ wr.rowIs w.heap.size 3 l.length (fun j => .int .i64 (if j < k then l.getD j 0 else 0)) ∧ Below w.heap.size w wr) (fun i _ => l.length - (intOf i).toNat)
  case atStart => exact ⟨0, Nat.zero_le _, rfl, (World.rowIs_made w _ _ _).congr (by simp), (Below.refl _ _).alloc (Nat.le_refl _) _⟩
  case round =>
    obtain ⟨k, hk, rfl, hrow, hb⟩ := hrel
    by_cases hlt : k < l.length
    · obtain ⟨x, rfl, hx, hc⟩ := HA.out k hlt
      have hc' : wr.cell? (x.add k) = some (.int .i64 (l.getD k 0)) := (hb.cell (p := x.add k) (by unfold Addr.add; split <;> exact hx)).trans hc
      have HR := Lib.hid hrow
      have hcell := hrow.cell hlt
      have hfr := hrow.frozen k
      clear hrow hc
      go_wp2_with fail
      go_roundw
      case rel =>
        refine ⟨k + 1, by omega, by go_num, ((HR.out).set k _).congr (fun j hj => ?_), hb.setCell (Nat.le_refl _) _⟩
        by_cases hjk : j = k
        · subst hjk; simp [hlt]
        · simp only [if_neg hjk]
          congr 1
          by_cases h2 : j < k
          · rw [if_pos h2, if_pos (by omega)]
          · rw [if_neg h2, if_neg (by omega)]
      case measure => simp [intOf]; omega
    · obtain rfl : k = l.length := by omega
      have HR := Lib.hid hrow
      clear hrow
      go_wp2_with fail
      go_ret
      refine ⟨_, rfl, ?_, hb⟩
      obtain ⟨cs, hcs, hn, hci⟩ := (HR.out)
      refine ⟨by simp, .inr ⟨w.heap.size, l.length, cs, rfl, Nat.le_refl _, hcs, Nat.le_refl _, by unfold maxLen; omega, by omega, ?_⟩⟩
      apply List.ext_getElem?
      intro j
      by_cases hj : j < l.length
      · have h1 : cs[j]? = some (.int .i64 (l.getD j 0)) := by rw [hci j hj]; simp only [if_pos hj]
        simp [hj, h1]
      · simp [List.getElem?_take, hj]
theorem eq_take {a b : List Int} {k : Nat} (hl : a.length = b.length) (hk : a.length ≤ k) (h : ∀ j, j < k → a.getD j 0 = b.getD j 0) : a = b := by
  apply List.ext_getElem hl
  intro j h1 h2
  have := h j (by omega)
  simpa [List.getD, h1, h2] using this
set_option maxRecDepth 100000 in
theorem eqIntS_any (a1 a2 : Option Addr) (c1 c2 : Nat) (l1 l2 : List Int) (w : World) (h1 : l1.length ≤ 4194304) (h2 : l2.length ≤ 4194304) (ha1 : At w a1 l1) (ha2 : At w a2 l2) :
    Calls Try.prog 46 #[.slice a1 l1.length c1, .slice a2 l2.length c2] w fun e w' => e = .returned (.bool (decide (l1 = l2))) ∧ Drawn w w' := by
  have HA1 := Lib.hid ha1
  have HA2 := Lib.hid ha2
  clear ha1 ha2
  by_cases hn : l1.length = l2.length
  · have g1 : (((l1.length : Nat) : Int) != (l2.length : Nat)) = false := by simp [hn]
    have HN := Lib.hid hn
    clear hn
    go_enter Try.func46, Try.ntmps46
    go_wp2_with fail
    clear g1
    go_loopw [5] (fun i wr => ∃ k : Nat, k ≤ l1.length ∧ i = .int .i64 k ∧ Hid (∀ j, j < k → l1.getD j 0 = l2.getD j 0) ∧ Hid (Drawn w wr)) (fun i _ => l1.length - (intOf i).toNat)
    case atStart => exact ⟨0, Nat.zero_le _, rfl, Lib.hid (fun j h => by omega), Lib.hid (Drawn.refl _)⟩
    case round =>
      obtain ⟨k, hk, rfl, HE, HQ⟩ := hrel
      by_cases hlt : k < l1.length
      · obtain ⟨x, rfl, _, hc1⟩ := HA1.out k hlt
        have hc1 := HQ.out.cell hc1
        obtain ⟨y, rfl, _, hc2⟩ := HA2.out k (by have := HN.out; omega)
        have hc2 := HQ.out.cell hc2
        have hlt2 : k < l2.length := by have := HN.out; omega
        by_cases hz : l1.getD k 0 = l2.getD k 0
        · rw [← hz] at hc2
          have HE2 := Lib.hid (show ∀ j, j < k + 1 → l1.getD j 0 = l2.getD j 0 from fun j hj => by
            by_cases e : j = k
            · rw [e]; exact hz
            · exact HE.out j (by omega))
          clear hz
          generalize l1.getD k 0 = z1 at *
          go_wp2_with fail
          go_quiet (fail)
          go_wp2_with fail
          go_roundw
          case rel => exact ⟨k + 1, by omega, by go_num, HE2, Lib.hid (HQ.out.more _)⟩
          case measure => simp [intOf]; omega
        · have HF := Lib.hid (show l1 ≠ l2 from fun e => hz (by rw [e]))
          have g2 : (l1.getD k 0 != l2.getD k 0) = true := by rw [bne_iff_ne]; exact hz
          clear hz
          generalize l1.getD k 0 = z1 at *
          generalize l2.getD k 0 = z2 at *
          go_wp2_with fail
          go_quiet (fail)
          go_wp2_with fail
          go_ret
          exact ⟨by rw [decide_eq_false (HF.out)]; rfl, HQ.out.more _⟩
      · have HF := Lib.hid (show l1 = l2 from eq_take HN.out (by omega) HE.out)
        go_wp2_with fail
        go_ret
        exact ⟨by rw [decide_eq_true (HF.out)]; rfl, HQ.out⟩
  · have g1 : (((l1.length : Nat) : Int) != (l2.length : Nat)) = true := by simp; omega
    have HF := Lib.hid (show l1 ≠ l2 from fun e => hn (by rw [e]))
    clear hn
    go_enter Try.func46, Try.ntmps46
    go_wp2_with fail
    go_ret
    exact ⟨by rw [decide_eq_false (HF.out)]; rfl, Drawn.refl _⟩
theorem eqIntS (b1 : Nat) (v1 : Value) (l1 : List Int) (b2 : Nat) (v2 : Value) (l2 : List Int) (w : World) (h1 : l1.length ≤ 4194304) (o1 : OwnI b1 w v1 l1) (h2 : l2.length ≤ 4194304) (o2 : OwnI b2 w v2 l2) :
    Calls Try.prog 46 #[v1, v2] w fun e w' => e = .returned (.bool (decide (l1 = l2))) ∧ Below w.heap.size w w' := by
  obtain ⟨a1, c1, rfl, _, _, at1, _⟩ := o1.form
  obtain ⟨a2, c2, rfl, _, _, at2, _⟩ := o2.form
  exact (eqIntS_any a1 a2 c1 c2 l1 l2 w h1 h2 at1 at2).mono fun e w' ⟨he, hd⟩ => ⟨he, hd.below _⟩
set_option maxRecDepth 100000 in
theorem specEqualServers_any (a1 a2 : Option Addr) (c1 c2 : Nat) (l1 l2 : List Int) (w : World) (h1 : l1.length ≤ 4194304) (h2 : l2.length ≤ 4194304) (ha1 : At w a1 l1) (ha2 : At w a2 l2) :
    Calls Try.prog 61 #[.slice a1 l1.length c1, .slice a2 l2.length c2] w fun e w' => e = .returned (.bool (decide (l1 = l2))) ∧ Drawn w w' := by
  have HA1 := Lib.hid ha1
  have HA2 := Lib.hid ha2
  clear ha1 ha2
  by_cases hn : l1.length = l2.length
  · have g1 : (((l1.length : Nat) : Int) != (l2.length : Nat)) = false := by simp [hn]
    have HN := Lib.hid hn
    clear hn
    go_enter Try.func61, Try.ntmps61
    go_wp2_with fail
    clear g1
    go_loopw [5] (fun i wr => ∃ k : Nat, k ≤ l1.length ∧ i = .int .i64 k ∧ Hid (∀ j, j < k → l1.getD j 0 = l2.getD j 0) ∧ Hid (Drawn w wr)) (fun i _ => l1.length - (intOf i).toNat)
    case atStart => exact ⟨0, Nat.zero_le _, rfl, Lib.hid (fun j h => by omega), Lib.hid (Drawn.refl _)⟩
    case round =>
      obtain ⟨k, hk, rfl, HE, HQ⟩ := hrel
      by_cases hlt : k < l1.length
      · obtain ⟨x, rfl, _, hc1⟩ := HA1.out k hlt
        have hc1 := HQ.out.cell hc1
        obtain ⟨y, rfl, _, hc2⟩ := HA2.out k (by have := HN.out; omega)
        have hc2 := HQ.out.cell hc2
        have hlt2 : k < l2.length := by have := HN.out; omega
        by_cases hz : l1.getD k 0 = l2.getD k 0
        · rw [← hz] at hc2
          have HE2 := Lib.hid (show ∀ j, j < k + 1 → l1.getD j 0 = l2.getD j 0 from fun j hj => by
            by_cases e : j = k
            · rw [e]; exact hz
            · exact HE.out j (by omega))
          clear hz
          generalize l1.getD k 0 = z1 at *
          go_wp2_with fail
          go_quiet (fail)
          go_wp2_with fail
          go_roundw
          case rel => exact ⟨k + 1, by omega, by go_num, HE2, Lib.hid (HQ.out.more _)⟩
          case measure => simp [intOf]; omega
        · have HF := Lib.hid (show l1 ≠ l2 from fun e => hz (by rw [e]))
          have g2 : (l1.getD k 0 != l2.getD k 0) = true := by rw [bne_iff_ne]; exact hz
          clear hz
          generalize l1.getD k 0 = z1 at *
          generalize l2.getD k 0 = z2 at *
          go_wp2_with fail
          go_quiet (fail)
          go_wp2_with fail
          go_ret
          exact ⟨by rw [decide_eq_false (HF.out)]; rfl, HQ.out.more _⟩
      · have HF := Lib.hid (show l1 = l2 from eq_take HN.out (by omega) HE.out)
        go_wp2_with fail
        go_ret
        exact ⟨by rw [decide_eq_true (HF.out)]; rfl, HQ.out⟩
  · have g1 : (((l1.length : Nat) : Int) != (l2.length : Nat)) = true := by simp; omega
    have HF := Lib.hid (show l1 ≠ l2 from fun e => hn (by rw [e]))
    clear hn
    go_enter Try.func61, Try.ntmps61
    go_wp2_with fail
    go_ret
    exact ⟨by rw [decide_eq_false (HF.out)]; rfl, Drawn.refl _⟩
theorem specEqualServers (b1 : Nat) (v1 : Value) (l1 : List Int) (b2 : Nat) (v2 : Value) (l2 : List Int) (w : World) (h1 : l1.length ≤ 4194304) (o1 : OwnI b1 w v1 l1) (h2 : l2.length ≤ 4194304) (o2 : OwnI b2 w v2 l2) :
    Calls Try.prog 61 #[v1, v2] w fun e w' => e = .returned (.bool (decide (l1 = l2))) ∧ Below w.heap.size w w' := by
  obtain ⟨a1, c1, rfl, _, _, at1, _⟩ := o1.form
  obtain ⟨a2, c2, rfl, _, _, at2, _⟩ := o2.form
  exact (specEqualServers_any a1 a2 c1 c2 l1 l2 w h1 h2 at1 at2).mono fun e w' ⟨he, hd⟩ => ⟨he, hd.below _⟩
/-- what marking leaves -/
def marks (k : Int) (n : Nat) : List Int := (List.range n).map fun i : Nat => k + (i : Int)
theorem marks_len (k : Int) (n : Nat) : (marks k n).length = n := by simp [marks]
theorem marks_get (k : Int) (n j : Nat) (h : j < n) : (marks k n).getD j 0 = k + (j : Int) := by simp [marks, List.getD, h]
theorem marks_set (k : Int) (j : Nat) (l : List Int) (h : j < l.length) : ((marks k j ++ l.drop j).map (Value.int .i64)).set j (.int .i64 (k + (j : Int))) = (marks k (j + 1) ++ l.drop (j + 1)).map (Value.int .i64) := by
  have e1 : marks k (j + 1) = marks k j ++ [k + (j : Int)] := by simp [marks, List.range_succ]
  rw [e1, List.drop_eq_getElem_cons h, List.map_append, List.set_append_right (h := by rw [List.length_map, marks_len]; exact Nat.le_refl _)]
  rw [List.length_map, marks_len]
  simp only [List.map_append, List.map_cons, Nat.sub_self, List.set_cons_zero, List.append_assoc, List.cons_append, List.nil_append]
set_option maxRecDepth 100000 in
theorem markIntS_any (base : Nat) (k : Int) (v : Value) (l : List Int) (w : World) (hl : l.length ≤ 4194304) (hk0 : 0 ≤ k) (hk : k ≤ 1000000000) (hown : OwnI base w v l) :
    Calls Try.prog 47 #[v, .int .i64 k] w fun e w' => e = .returned (.int .i64 (k + (l.length : Int))) ∧ OwnI base w' v (marks k l.length) ∧ w.grownBy w' v.ownBlock := by
  obtain ⟨a, cap, rfl, hlc, hcm, hat, hbl⟩ := hown.form
  have HO := Lib.hid hown
  clear hown hat
  go_enter Try.func47, Try.ntmps47
  go_wp2_with fail
  go_loopw [1, 5] (fun m i wr => ∃ j : Nat, j ≤ l.length ∧ i = .int .i64 j ∧ m = .int .i64 (k + (j : Int)) ∧ OwnI base wr (.slice a l.length cap) (marks k j ++ l.drop j) ∧ w.grownBy wr (Value.slice a l.length cap).ownBlock) (fun _ i _ => l.length - (intOf i).toNat)
  case atStart => exact ⟨0, Nat.zero_le _, rfl, by simp, HO.out, ⟨rfl, rfl, rfl, Nat.le_refl _, fun _ _ _ => rfl⟩⟩
  case round =>
    obtain ⟨j, hj, rfl, rfl, hown, hg⟩ := hrel
    have hlen : (marks k j ++ l.drop j).length = l.length := by rw [List.length_append, marks_len, List.length_drop]; omega
    by_cases hlt : j < l.length
    · obtain ⟨g, cap', he, _, _, hbg, hgl⟩ := hown.there (by omega)
      rw [hlen] at he
      injection he with he1 _ he3
      subst he1
      subst he3
      have hcell : ∃ u, wr.cell? ⟨g, j, none⟩ = some (.int .i64 u) := by
        have h1 := hown.row
        rw [hlen] at h1
        exact ⟨_, by rw [h1.cellAt j (by omega), List.getElem?_map, List.getElem?_eq_getElem (by rw [hlen]; exact hlt)]; rfl⟩
      obtain ⟨u, hu⟩ := hcell
      have hfr : wr.frozen? ⟨g, j, none⟩ = false := by
        have h1 := hown.row
        rw [hlen] at h1
        exact h1.frozenAt j
      have HW := Lib.hid hown
      have HL := Lib.hid hlen
      clear hown hlen
      go_wp2_with fail
      go_roundw
      case rel =>
        have h1 := (HW.out).row
        rw [HL.out] at h1
        have h2 := h1.stored j (.int .i64 (k + (j : Int)))
        refine ⟨j + 1, by omega, by go_num, by congr 1; omega, ?_, gtrans hg h2.2⟩
        exact OwnI.of (n := l.length) h2.1 (marks_set k j l hlt)
      case measure => simp [intOf]; omega
    · obtain rfl : j = l.length := by omega
      have HW := Lib.hid hown
      have HG := Lib.hid hg
      clear hown hlen hg
      go_wp2_with fail
      go_ret
      exact ⟨rfl, by have := HW.out; rw [List.drop_length, List.append_nil] at this; exact this, HG.out⟩
theorem OwnI.block {base : Nat} {w : World} {v : Value} {l : List Int} (h : OwnI base w v l) : ∀ g, v.ownBlock = some g → base ≤ g ∧ g < w.heap.size := h.row.lt
/-- a row stays while another one is marked -/
theorem OwnI.marked {base : Nat} {w w' : World} {v u : Value} {l : List Int} (h : OwnI base w u l) (hg : w.grownBy w' v.ownBlock) (hne : ∀ g, v.ownBlock = some g → u.ownBlock = some g → False) : OwnI base w' u l := by
  refine h.row.kept hg ?_
  cases hu : u.ownBlock with
  | none => exact .inl rfl
  | some g => exact .inr fun e => hne g e.symm hu
theorem marked_below {w w' : World} {v : Value} {B : Nat} (hg : w.grownBy w' v.ownBlock) (hB : B ≤ w.heap.size) (h : ∀ g, v.ownBlock = some g → B ≤ g) : Below B w w' := (Below.refl B w).grown hg hB h
set_option maxRecDepth 100000 in
theorem heldIntS_any (base : Nat) (k : Int) (n : Nat) (v : Value) (w : World) (hl : n ≤ 4194304) (hk0 : 0 ≤ k) (hk : k ≤ 1000000000) (hown : OwnI base w v (marks k n)) :
    Calls Try.prog 62 #[v, .int .i64 k] w fun e w' => e = .returned (.int .i64 (k + (n : Int))) ∧ w = w' := by
  obtain ⟨a, cap, rfl, hlc, hcm, hat, hbl⟩ := hown.form
  rw [marks_len] at hlc ⊢
  have HA := Lib.hid hat
  clear hown hat
  go_enter Try.func62, Try.ntmps62
  go_wp2_with fail
  go_loop [1, 5] (fun m i => ∃ j : Nat, j ≤ n ∧ i = .int .i64 j ∧ m = .int .i64 (k + (j : Int))) (fun _ i => n - (intOf i).toNat)
  case atStart => exact ⟨0, Nat.zero_le _, rfl, by simp⟩
  case round =>
    obtain ⟨j, hj, rfl, rfl⟩ := hrel
    by_cases hlt : j < n
    · obtain ⟨x, rfl, hx, hc⟩ := HA.out j (by rw [marks_len]; exact hlt)
      rw [marks_get k n j hlt] at hc
      go_wp2_with fail
      go_round
      case rel => exact ⟨j + 1, by omega, by go_num, by congr 1; omega⟩
      case measure => simp [intOf]; omega
    · obtain rfl : j = n := by omega
      go_wp2_with fail
      go_ret
      exact ⟨rfl, rfl⟩
end Go.Proofs.Ytgjebjoaemeeoaa.kit
