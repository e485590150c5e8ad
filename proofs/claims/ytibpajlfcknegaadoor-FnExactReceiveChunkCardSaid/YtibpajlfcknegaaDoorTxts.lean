/-
  Slices of strings: how a slice reads as a list; a row of the call's own; the laws' helpers that copy, compare, mark and check such slices. It follows the text of slices of ints.
-/
import Derived.Test.YtibpajlfcknegaaDoorInts
import Derived.Deep.Strs
namespace Go.Proofs.YtibpajlfcknegaaDoor.kit
open Go.ChangeShapes Go.WideShapes Go.ChangeAt Go.RowKit Go.Deep
set_option linter.unusedVariables false

/-- the address a leads to the strings l -/
def AtW (w : World) (a : Option Addr) (l : List ByteArray) : Prop := ∀ j, j < l.length → ∃ x : Addr, a = some x ∧ x.block < w.heap.size ∧ w.cell? (x.add j) = some (.string (l.getD j .empty))
theorem AtW.nil (w : World) (a : Option Addr) : AtW w a [] := fun j h => by simp at h
theorem AtW.below {w w' : World} {a : Option Addr} {l : List ByteArray} {B : Nat} (h : AtW w a l) (hb : Below B w w') (hB : ∀ x, a = some x → 0 < l.length → x.block < B) : AtW w' a l := fun j hj => by
  obtain ⟨x, hx, hlt, hc⟩ := h j hj
  have hxB := hB x hx (by omega)
  exact ⟨x, hx, Nat.lt_of_lt_of_le hlt hb.size, (hb.cell (p := x.add j) (by unfold Addr.add; split <;> exact hxB)).trans hc⟩
theorem AtW.later {w w' : World} {a : Option Addr} {l : List ByteArray} (h : AtW w a l) (hb : Below w.heap.size w w') : AtW w' a l :=
  h.below hb (fun x hx h0 => by obtain ⟨x', hx', hlt, _⟩ := h 0 h0; rw [hx] at hx'; cases hx'; exact hlt)
theorem AtW.drewN {w : World} {a : Option Addr} {l : List ByteArray} (h : AtW w a l) (q : Nat) : AtW (w.drewN q) a l := h
/-- the slice value v is the call's own row of the strings l -/
def OwnW (base : Nat) (w : World) (v : Value) (l : List ByteArray) : Prop := w.ownsRow base 9 1 v l.length (l.map Value.string)
theorem OwnW.row {base : Nat} {w : World} {v : Value} {l : List ByteArray} (h : OwnW base w v l) : w.ownsRow base 9 1 v l.length (l.map Value.string) := h
theorem OwnW.form {base : Nat} {w : World} {v : Value} {l : List ByteArray} (h : OwnW base w v l) : ∃ a cap, v = .slice a l.length cap ∧ l.length ≤ cap ∧ cap ≤ maxLen ∧ AtW w a l ∧ (∀ x, a = some x → base ≤ x.block ∧ x.block < w.heap.size) := by
  rcases h.2 with ⟨rfl, h0⟩ | ⟨g, c, cur, rfl, hg, hh, hn, hm, _⟩
  · obtain rfl := List.eq_nil_of_length_eq_zero h0
    exact ⟨none, 0, rfl, Nat.le_refl _, Nat.zero_le _, AtW.nil _ _, fun x hx => by cases hx⟩
  · have hlt : g < w.heap.size := (Array.getElem?_eq_some_iff.1 hh).1
    refine ⟨_, _, rfl, hn, hm, fun j hj => ⟨_, rfl, hlt, ?_⟩, fun x hx => by cases hx; exact ⟨hg, hlt⟩⟩
    have := h.row.cellAt j (by omega)
    have hadd : (⟨g, 0, none⟩ : Addr).add j = ⟨g, j, none⟩ := by unfold Addr.add; split <;> simp_all
    rw [hadd, this]
    simp [List.getD, hj]
theorem OwnW.there {base : Nat} {w : World} {v : Value} {l : List ByteArray} (h : OwnW base w v l) (h0 : 0 < l.length) : ∃ g cap, v = .slice (some ⟨g, 0, none⟩) l.length cap ∧ l.length ≤ cap ∧ cap ≤ maxLen ∧ base ≤ g ∧ g < w.heap.size := by
  rcases h.2 with ⟨rfl, h1⟩ | ⟨g, c, cur, rfl, hg, hh, hn, hm, _⟩
  · omega
  · exact ⟨g, c, rfl, hn, hm, hg, (Array.getElem?_eq_some_iff.1 hh).1⟩
theorem OwnW.mono {base base' : Nat} {w : World} {v : Value} {l : List ByteArray} (h : OwnW base w v l) (hb : base' ≤ base) : OwnW base' w v l :=
  ⟨h.1, h.2.imp id (fun ⟨g, c, cur, hv, hg, r⟩ => ⟨g, c, cur, hv, by omega, r⟩)⟩
theorem OwnW.later {base : Nat} {w w' : World} {v : Value} {l : List ByteArray} (h : OwnW base w v l) (hb : Below w.heap.size w w') : OwnW base w' v l :=
  h.row.kept (row := none) ⟨hb.os, hb.tape, hb.output, hb.size, fun k hk _ => hb.block k hk⟩ (by cases hv : v.ownBlock <;> simp)
theorem OwnW.snoc {base : Nat} {w : World} {v : Value} {l : List ByteArray} {x : ByteArray} (h : w.ownsRow base 9 1 v (l.length + 1) (l.map Value.string ++ [.string x])) : OwnW base w v (l ++ [x]) := by
  simpa [OwnW] using h
theorem OwnW.of {base : Nat} {w : World} {v : Value} {l : List ByteArray} {n : Nat} {cs : List Value} (h : w.ownsRow base 9 1 v n cs) (hc : cs = l.map Value.string) : OwnW base w v l := by
  subst hc
  have hn : n = l.length := by have := h.1; simpa using this.symm
  subst hn
  exact h
theorem infoW : (Tryd.prog.info? 9).map (fun i => (i.zero, i.size, i.bytes)) = some (some (.string .empty), 1, 16) := by kernel_rfl
theorem getD_takeW {l : List ByteArray} {n j : Nat} (h : j < n) : (l.take n).getD j .empty = l.getD j .empty := by simp [List.getD, h]
theorem take_snocW (l : List ByteArray) (k : Nat) (h : k < l.length) : l.take (k + 1) = l.take k ++ [l.getD k .empty] := by
  rw [List.take_succ_eq_append_getElem h]; simp [List.getD, h]

/-- the slice value sv reads as the strings l, below block B -/
def SrcW (B : Nat) (w : World) (sv : Value) (l : List ByteArray) : Prop :=
  (sv = .slice none 0 0 ∧ l = []) ∨ ∃ ad c, sv = .slice (some ad) l.length c ∧ ad.block < B ∧ ∀ j, j < l.length → w.cell? (ad.add j) = some (.string (l.getD j .empty))
theorem SrcW.below {B B' : Nat} {w w' : World} {sv : Value} {l : List ByteArray} (h : SrcW B w sv l) (hb : Below B' w w') (hB : B ≤ B') : SrcW B w' sv l := by
  rcases h with h | ⟨ad, c, h1, h2, h3⟩
  · exact .inl h
  · exact .inr ⟨ad, c, h1, h2, fun j hj => (hb.cell (p := ad.add j) (by unfold Addr.add; split <;> exact Nat.lt_of_lt_of_le h2 hB)).trans (h3 j hj)⟩
theorem SrcW.row {w : World} {B g m : Nat} {c : Nat} {l : List ByteArray} (hg : g < B) (hm : m = l.length) (h : ∀ j, j < l.length → w.cell? ⟨g, j, none⟩ = some (.string (l.getD j .empty))) : SrcW B w (.slice (some ⟨g, 0, none⟩) m c) l := by
  subst hm
  exact .inr ⟨_, _, rfl, hg, fun j hj => by
    have e : (⟨g, 0, none⟩ : Addr).add j = ⟨g, j, none⟩ := by unfold Addr.add; split <;> simp_all
    rw [e]; exact h j hj⟩
theorem SrcW.part {w : World} {B g off m : Nat} {c : Nat} {l : List ByteArray} (hg : g < B) (hm : m = l.length) (h : ∀ j, j < l.length → w.cell? ⟨g, off + j, none⟩ = some (.string (l.getD j .empty))) : SrcW B w (.slice (some ⟨g, off, none⟩) m c) l := by
  subst hm
  exact .inr ⟨_, _, rfl, hg, fun j hj => by
    have e : (⟨g, off, none⟩ : Addr).add j = ⟨g, off + j, none⟩ := by unfold Addr.add; split <;> simp_all
    rw [e]; exact h j hj⟩
/-- a row of one number, just made -/
theorem SrcW.lit (w : World) (x : ByteArray) : SrcW (w.heap.size + 1) (w.alloc (.cells #[.string x] 9)) (.slice (some ⟨w.heap.size, 0, none⟩) 1 1) [x] := by
  refine SrcW.row (by omega) rfl (fun j hj => ?_)
  obtain rfl : j = 0 := by simpa using hj
  have h : (w.alloc (.cells #[.string x] 9)).ownsRow 0 9 1 (.slice (some ⟨w.heap.size, 0, none⟩) 1 1) 1 [.string x] := World.ownsRow_lit w #[.string x] 1 (Nat.zero_le _) (by unfold maxLen; omega) rfl
  rw [h.cellAt 0 (by omega)]
  rfl
theorem SrcW.grown {B : Nat} {w w' : World} {sv : Value} {l : List ByteArray} {row : Option Nat} (h : SrcW B w sv l) (hg : w.grownBy w' row) (hB : B ≤ w.heap.size) (hr : ∀ g ad n c, row = some g → sv = .slice (some ad) n c → ad.block ≠ g) : SrcW B w' sv l := by
  rcases h with h | ⟨ad, c, h1, h2, h3⟩
  · exact .inl h
  · refine .inr ⟨ad, c, h1, h2, fun j hj => ?_⟩
    have e : (ad.add j).block = ad.block := by unfold Addr.add; split <;> rfl
    refine (World.cell?_of_block ?_).trans (h3 j hj)
    rw [e]
    exact hg.block _ (by omega) (fun e => hr _ _ _ _ e.symm h1 rfl)
/-- append onto a row of the call's own, the source nil, empty or not -/
theorem wp_appW {w : World} {o : Oper} {a : Act} {K : Act → World → Prop} {Q : Exit → Act → World → Prop} (s x : Operand)
    (ho : o.op = .call { callee := .builtin .append, args := #[s, x], argTypes := #[37, 37] })
    (base : Nat) (v : Value) (l0 : List ByteArray) (hs : a.eval s = v) (hown : OwnW base w v l0) (B : Nat) (sv : Value) (l : List ByteArray) (hx : a.eval x = sv) (hsrc : SrcW B w sv l)
    (hlen : l0.length + l.length ≤ 1000000000000) (hbase : base ≤ w.heap.size)
    (h : ∀ v' w', OwnW base w' v' (l0 ++ l) → Below base w w' → w.grownBy w' v.ownBlock → K (a.put o.dst v') w') : o.wp Tryd.prog a w K Q := by
  obtain ⟨i0, hi, hz0, hz1, hz2⟩ := info_parts infoW
  rcases hsrc with ⟨rfl, rfl⟩ | ⟨ad, c, rfl, _, hc⟩
  · have hrun := run_append_owned_none (P := Tryd.prog) (w := w) base 37 o.type 9 i0 1 Tryd.underlying37 hi v l0.length _ hown.row
    unfold Oper.wp execOp
    simp only [ho, resolve, invoke, builtin, Sem.run_bind, Sem.run_pure, Result.andThen_ok, List.map_toArray, List.map_cons, List.map_nil, hs, hx, hrun]
    exact h v w (by rw [List.append_nil]; exact hown) (Below.refl _ _) (World.grownBy.refl _ _)
  · refine wp_append_own w s x 37 ho base 9 i0 (.string .empty) 1 16 Tryd.underlying37 hi hz0 hz1 hz2 rfl (by omega) v l0.length _ hs hown.row ad l.length c (l.map Value.string) hx (by simp) ?_ ?_ (by unfold maxLen; omega) (by omega) hbase ?_
    · intro j u hu
      have hj : j < l.length := by
        have := (List.getElem?_eq_some_iff.1 hu).1
        simpa using this
      rw [List.getElem?_map, List.getElem?_eq_getElem hj] at hu
      have e := hc j hj
      rw [e]
      simpa [List.getD, hj] using hu
    · intro u hu
      obtain ⟨y, _, rfl⟩ := List.mem_map.1 hu
      rfl
    · intro v' w' h1 h2 _
      refine h v' w' (OwnW.of h1 (by rw [List.map_append])) ((Below.refl base w).grown h2 hbase (fun k hk => (hown.row.lt k hk).1)) h2
theorem wpList_appW {w : World} {ops : Array Oper} {rest : List Oper} {o : Oper} {a : Act} {Q : Exit → Act → World → Prop} (hgd : o.guard = none) (s x : Operand)
    (ho : o.op = .call { callee := .builtin .append, args := #[s, x], argTypes := #[37, 37] })
    (base : Nat) (v : Value) (l0 : List ByteArray) (hs : a.eval s = v) (hown : OwnW base w v l0) (B : Nat) (sv : Value) (l : List ByteArray) (hx : a.eval x = sv) (hsrc : SrcW B w sv l)
    (hlen : l0.length + l.length ≤ 1000000000000) (hbase : base ≤ w.heap.size)
    (h : ∀ v' w', OwnW base w' v' (l0 ++ l) → Below base w w' → w.grownBy w' v.ownBlock → wpList Tryd.prog ops Q rest (a.put o.dst v') w') : wpList Tryd.prog ops Q (o :: rest) a w :=
  wpList_plain hgd fun _ hK => wp_appW s x ho base v l0 hs hown B sv l hx hsrc hlen hbase fun v' w' h2 h3 h4 => hK _ _ (h v' w' h2 h3 h4)
theorem step_appW {w : World} {ops : Array Oper} {o : Oper} {a : Act} {K : Act → World → Prop} {Q : Exit → Act → World → Prop} {E : Prop} (hgd : o.guard = none) (s x : Operand)
    (ho : o.op = .call { callee := .builtin .append, args := #[s, x], argTypes := #[37, 37] })
    (base : Nat) (v : Value) (l0 : List ByteArray) (hs : a.eval s = v) (hown : OwnW base w v l0) (B : Nat) (sv : Value) (l : List ByteArray) (hx : a.eval x = sv) (hsrc : SrcW B w sv l)
    (hlen : l0.length + l.length ≤ 1000000000000) (hbase : base ≤ w.heap.size)
    (h : ∀ v' w', OwnW base w' v' (l0 ++ l) → Below base w w' → w.grownBy w' v.ownBlock → K (a.put o.dst v') w') :
    if Region.wanted o (yielded ops a.tmps) = true then Oper.wp Tryd.prog o a w K Q else E := by
  rw [if_pos (by simp [Region.wanted, hgd])]
  exact wp_appW s x ho base v l0 hs hown B sv l hx hsrc hlen hbase h

/-- .. each of which is no longer than a string may be -/
def AtZ (w : World) (a : Option Addr) (l : List ByteArray) : Prop := AtW w a l ∧ ∀ y ∈ l, y.size ≤ maxLen
theorem AtZ.later {w w' : World} {a : Option Addr} {l : List ByteArray} (h : AtZ w a l) (hb : Below w.heap.size w w') : AtZ w' a l := ⟨h.1.later hb, h.2⟩
theorem AtZ.below {w w' : World} {a : Option Addr} {l : List ByteArray} {B : Nat} (h : AtZ w a l) (hb : Below B w w') (hB : ∀ x : Addr, a = some x → 0 < l.length → x.block < B) : AtZ w' a l := ⟨h.1.below hb hB, h.2⟩
set_option maxRecDepth 100000 in
theorem toStringS (a : Option Addr) (c : Nat) (l : List ByteArray) (w : World) (hl : l.length ≤ 4194304) (hz : AtZ w a l) :
    Calls Tryd.prog 18 #[.slice a l.length c] w fun e w' => ∃ v, e = .returned v ∧ OwnW w.heap.size w' v l ∧ Below w.heap.size w w' := by
  have hmk : ∀ W : World, (Instr.makeSlice 37 (.int .i64 (l.length : Int)) (.int .i64 (l.length : Int))).run Tryd.prog W = .ok (.slice (some ⟨W.heap.size, 0, none⟩) l.length l.length) (W.alloc (.cells (madeCells #[.string .empty] l.length) 9)) := fun W =>
    run_make_row' 37 9 (.string .empty) 16 Tryd.underlying37 infoW rfl .i64 .i64 l.length (by omega) (by omega) W
  have HA := Lib.hid hz.1
  clear hz
  go_enter Tryd.func18, Tryd.ntmps18
  go_wp2_with fail
  clear hmk
  go_loopw [4] (fun i wr => ∃ k : Nat, k ≤ l.length ∧ i = .int .i64 k ∧ wr.rowIs w.heap.size 9 l.length (fun j => .string (if j < k then l.getD j .empty else .empty)) ∧ Below w.heap.size w wr) (fun i _ => l.length - (intOf i).toNat)
  case atStart => exact ⟨0, Nat.zero_le _, rfl, (World.rowIs_made w _ _ _).congr (by simp), (Below.refl _ _).alloc (Nat.le_refl _) _⟩
  case round =>
    obtain ⟨k, hk, rfl, hrow, hb⟩ := hrel
    by_cases hlt : k < l.length
    · obtain ⟨x, rfl, hx, hc⟩ := HA.out k hlt
      have hc' : wr.cell? (x.add k) = some (.string (l.getD k .empty)) := (hb.cell (p := x.add k) (by unfold Addr.add; split <;> exact hx)).trans hc
      have HR := Lib.hid hrow
      have hcell := hrow.cell hlt
      have hfr := hrow.frozen k
      clear hrow hc
      go_wp2_with fail
      go_roundw
      case rel =>
        refine ⟨k + 1, by omega, by go_num, ((HR.out).set k _).congr (fun j hj => ?_), hb.setCell (Nat.le_refl _) _⟩
        by_cases hjk : j = k
        · subst hjk; simp [hlt]
        · simp only [if_neg hjk]
          congr 1
          by_cases h2 : j < k
          · rw [if_pos h2, if_pos (by omega)]
          · rw [if_neg h2, if_neg (by omega)]
      case measure => simp [intOf]; omega
    · obtain rfl : k = l.length := by omega
      have HR := Lib.hid hrow
      clear hrow
      go_wp2_with fail
      go_ret
      refine ⟨_, rfl, ?_, hb⟩
      obtain ⟨cs, hcs, hn, hci⟩ := (HR.out)
      refine ⟨by simp, .inr ⟨w.heap.size, l.length, cs, rfl, Nat.le_refl _, hcs, Nat.le_refl _, by unfold maxLen; omega, by omega, ?_⟩⟩
      apply List.ext_getElem?
      intro j
      by_cases hj : j < l.length
      · have h1 : cs[j]? = some (.string (l.getD j .empty)) := by rw [hci j hj]; simp only [if_pos hj]
        simp [hj, h1]
      · simp [List.getElem?_take, hj]
theorem tl_ne {a b : ByteArray} (h : ¬ a = b) : (a.toList == b.toList) = false := by
  rw [beq_eq_false_iff_ne, ByteArray.toList_eq, ByteArray.toList_eq]
  exact fun e => h (ByteArray.ext (Array.ext' e))
theorem tl_eq (a : ByteArray) : (a.toList == a.toList) = true := by simp
theorem eq_takeW {a b : List ByteArray} {k : Nat} (hl : a.length = b.length) (hk : a.length ≤ k) (h : ∀ j, j < k → a.getD j .empty = b.getD j .empty) : a = b := by
  apply List.ext_getElem hl
  intro j h1 h2
  have := h j (by omega)
  simpa [List.getD, h1, h2] using this
set_option maxRecDepth 100000 in
theorem eqStringS_any (a1 a2 : Option Addr) (c1 c2 : Nat) (l1 l2 : List ByteArray) (w : World) (h1 : l1.length ≤ 4194304) (h2 : l2.length ≤ 4194304) (ha1 : AtW w a1 l1) (ha2 : AtW w a2 l2) :
    Calls Tryd.prog 20 #[.slice a1 l1.length c1, .slice a2 l2.length c2] w fun e w' => e = .returned (.bool (decide (l1 = l2))) ∧ Drawn w w' := by
  have HA1 := Lib.hid ha1
  have HA2 := Lib.hid ha2
  clear ha1 ha2
  by_cases hn : l1.length = l2.length
  · have g1 : (((l1.length : Nat) : Int) != (l2.length : Nat)) = false := by simp [hn]
    have HN := Lib.hid hn
    clear hn
    go_enter Tryd.func20, Tryd.ntmps20
    go_wp2_with fail
    clear g1
    go_loopw [5] (fun i wr => ∃ k : Nat, k ≤ l1.length ∧ i = .int .i64 k ∧ Hid (∀ j, j < k → l1.getD j .empty = l2.getD j .empty) ∧ Hid (Drawn w wr)) (fun i _ => l1.length - (intOf i).toNat)
    case atStart => exact ⟨0, Nat.zero_le _, rfl, Lib.hid (fun j h => by omega), Lib.hid (Drawn.refl _)⟩
    case round =>
      obtain ⟨k, hk, rfl, HE, HQ⟩ := hrel
      by_cases hlt : k < l1.length
      · obtain ⟨x, rfl, _, hc1⟩ := HA1.out k hlt
        have hc1 := HQ.out.cell hc1
        obtain ⟨y, rfl, _, hc2⟩ := HA2.out k (by have := HN.out; omega)
        have hc2 := HQ.out.cell hc2
        have hlt2 : k < l2.length := by have := HN.out; omega
        by_cases hz : l1.getD k .empty = l2.getD k .empty
        · rw [← hz] at hc2
          have HE2 := Lib.hid (show ∀ j, j < k + 1 → l1.getD j .empty = l2.getD j .empty from fun j hj => by
            by_cases e : j = k
            · rw [e]; exact hz
            · exact HE.out j (by omega))
          clear hz
          generalize l1.getD k .empty = z1 at *
          go_wp2_with fail
          go_quiet (fail)
          go_wp2_with fail
          go_roundw
          case rel => exact ⟨k + 1, by omega, by go_num, HE2, Lib.hid (HQ.out.more _)⟩
          case measure => simp [intOf]; omega
        · have HF := Lib.hid (show l1 ≠ l2 from fun e => hz (by rw [e]))
          have g2 : ((l1.getD k .empty).toList == (l2.getD k .empty).toList) = false := tl_ne hz
          clear hz
          generalize l1.getD k .empty = z1 at *
          generalize l2.getD k .empty = z2 at *
          go_wp2_with fail
          go_quiet (fail)
          go_wp2_with fail
          go_ret
          exact ⟨by rw [decide_eq_false (HF.out)]; rfl, HQ.out.more _⟩
      · have HF := Lib.hid (show l1 = l2 from eq_takeW HN.out (by omega) HE.out)
        go_wp2_with fail
        go_ret
        exact ⟨by rw [decide_eq_true (HF.out)]; rfl, HQ.out⟩
  · have g1 : (((l1.length : Nat) : Int) != (l2.length : Nat)) = true := by simp; omega
    have HF := Lib.hid (show l1 ≠ l2 from fun e => hn (by rw [e]))
    clear hn
    go_enter Tryd.func20, Tryd.ntmps20
    go_wp2_with fail
    go_ret
    exact ⟨by rw [decide_eq_false (HF.out)]; rfl, Drawn.refl _⟩
theorem eqStringS (b1 : Nat) (v1 : Value) (l1 : List ByteArray) (b2 : Nat) (v2 : Value) (l2 : List ByteArray) (w : World) (h1 : l1.length ≤ 4194304) (o1 : OwnW b1 w v1 l1) (h2 : l2.length ≤ 4194304) (o2 : OwnW b2 w v2 l2) :
    Calls Tryd.prog 20 #[v1, v2] w fun e w' => e = .returned (.bool (decide (l1 = l2))) ∧ Below w.heap.size w w' := by
  obtain ⟨a1, c1, rfl, _, _, at1, _⟩ := o1.form
  obtain ⟨a2, c2, rfl, _, _, at2, _⟩ := o2.form
  exact (eqStringS_any a1 a2 c1 c2 l1 l2 w h1 h2 at1 at2).mono fun e w' ⟨he, hd⟩ => ⟨he, hd.below _⟩

section
variable {H : Type} {enc : TypeId × Value → H} {w : World} {base : Nat} {spare : Nat → Bool} {held : Bool}
set_option maxRecDepth 100000 in
/-- a []string, as cells -/
theorem open_strW {n : Nat} {c : Value} {x : DataW H × List MemPlace} (h : DataW.trod enc Tryd.prog w base spare held n 37 [c] = some x) :
    ∃ (a : Option Addr) (cap : Nat) (L : List ByteArray), c = .slice a L.length cap ∧ AtW w a L ∧ L.length ≤ maxLen ∧ ∀ y ∈ L, y.size ≤ maxLen := by
  rcases open_strs Tryd.underlying37 Tryd.underlying9 (by kernel_rfl) h with ⟨hcs, _⟩ | ⟨a, len, cap, m, Sx, hcs, hb, hl, hm, hmm, hx, hcell⟩
  · simp only [List.cons.injEq, and_true] at hcs
    exact ⟨none, 0, [], hcs, AtW.nil _ _, by simp, by simp⟩
  · simp only [List.cons.injEq, and_true] at hcs
    have hlm : len ≤ m := by rw [hmm]; split <;> omega
    refine ⟨some a, cap, (List.range len).map Sx, by rw [hcs]; simp, fun j hj => ⟨a, rfl, ?_, ?_⟩, by simp; omega, fun y hy => ?_⟩
    · have hj' : j < len := by simpa using hj
      have hb := World.block_lt_of_cell? w _ (hcell j (by omega)).1
      have e : (a.add j).block = a.block := by unfold Addr.add; split <;> rfl
      rw [e] at hb; exact hb
    · have hj' : j < len := by simpa using hj
      rw [(hcell j (by omega)).1]
      simp [List.getD, hj']
    · obtain ⟨i, hi, rfl⟩ := List.mem_map.1 hy
      exact (hcell i (by have := List.mem_range.1 hi; omega)).2
/-- .. handed in -/
theorem open_strV {v : Value} {d : DataW H} {p : List MemPlace} (h : DataW.Trod enc Tryd.prog w base spare held 37 v d p) (hlt : ∀ x ∈ p, x.block < w.heap.size) (hv : v.cells.toList = [v]) :
    ∃ (a : Option Addr) (cap : Nat) (L : List ByteArray), v = .slice a L.length cap ∧ AtZ w a L ∧ L.length ≤ maxLen := by
  obtain ⟨fuel, hf⟩ := h
  rw [hv] at hf
  obtain ⟨a, cap, L, e, h1, h2, h3⟩ := open_strW hf
  exact ⟨a, cap, L, e, ⟨h1, h3⟩, h2⟩
end
theorem OwnW.shape {base : Nat} {w : World} {v : Value} {l : List ByteArray} (h : OwnW base w v l) : ∃ a c, v = .slice a l.length c := by obtain ⟨a, c, h1, _⟩ := h.form; exact ⟨a, c, h1⟩
theorem OwnW.block {base : Nat} {w : World} {v : Value} {l : List ByteArray} (h : OwnW base w v l) : ∀ g, v.ownBlock = some g → base ≤ g ∧ g < w.heap.size := h.row.lt
theorem OwnW.marked {base : Nat} {w w' : World} {v u : Value} {l : List ByteArray} (h : OwnW base w u l) (hg : w.grownBy w' v.ownBlock) (hne : ∀ g, v.ownBlock = some g → u.ownBlock = some g → False) : OwnW base w' u l := by
  refine h.row.kept hg ?_
  cases hu : u.ownBlock with
  | none => exact .inl rfl
  | some g => exact .inr fun e => hne g e.symm hu
theorem atW_low {w : World} {a : Option Addr} {l : List ByteArray} (h : AtW w a l) : ∀ x : Addr, a = some x → 0 < l.length → x.block < w.heap.size := fun x hx h0 => by
  obtain ⟨x', hx', hlt, _⟩ := h 0 h0
  rw [hx] at hx'; cases hx'; exact hlt
theorem atZ_low {w : World} {a : Option Addr} {l : List ByteArray} (h : AtZ w a l) : ∀ x : Addr, a = some x → 0 < l.length → x.block < w.heap.size := atW_low h.1
/-- how many bytes the first k strings hold -/
def sumW (l : List ByteArray) : Nat → Nat
  | 0 => 0
  | k + 1 => sumW l k + (l.getD k .empty).size
theorem sumW_mono (l : List ByteArray) {j k : Nat} (h : j ≤ k) : sumW l j ≤ sumW l k := by
  induction k with
  | zero => have : j = 0 := by omega
            subst this; exact Nat.le_refl _
  | succ k ih =>
    rcases Nat.lt_or_ge j (k + 1) with h1 | h1
    · exact Nat.le_trans (ih (by omega)) (Nat.le_add_right _ _)
    · have : j = k + 1 := by omega
      subst this; exact Nat.le_refl _
theorem sumW_at (l : List ByteArray) {j : Nat} (h : j < l.length) : (l.getD j .empty).size ≤ sumW l l.length := Nat.le_trans (Nat.le_add_left _ _) (sumW_mono l (show j + 1 ≤ l.length from h))
set_option maxRecDepth 100000 in
/-- what is left of k behind a slice of strings: -1 if it does not go -/
theorem szStringS (a : Option Addr) (c : Nat) (l : List ByteArray) (k : Nat) (w : World) (hn : l.length ≤ 9223372036854775807) (hk : k ≤ 1048576) (hz : AtZ w a l) :
    Calls Tryd.prog 16 #[.slice a l.length c, .int .i64 k] w fun e w' => e = .returned (.int .i64 (if l.length + sumW l l.length ≤ k then (k : Int) - (l.length : Int) - (sumW l l.length : Nat) else -1)) ∧ Below w.heap.size w w' := by
  have HA := Lib.hid hz.1
  have HS := Lib.hid hz.2
  clear hz
  by_cases h0 : l.length ≤ k
  · have g0 : decide ((k : Int) - (l.length : Int) < 0) = false := by simp; omega
    have hw : IntKind.i64.wrap ((k : Int) - (l.length : Int)) = (k : Int) - (l.length : Int) := IntWalk.i64_in _ (by omega)
    go_enter Tryd.func16, Tryd.ntmps16
    go_wp2_with fail
    clear hw g0
    go_loopw [1, 5] (fun m i wr => ∃ j : Nat, j ≤ l.length ∧ i = .int .i64 j ∧ m = .int .i64 ((k : Int) - (l.length : Int) - (sumW l j : Nat)) ∧ l.length + sumW l j ≤ k ∧ w = wr) (fun _ i _ => l.length - (intOf i).toNat)
    case atStart => exact ⟨0, Nat.zero_le _, rfl, by simp [sumW], by simpa [sumW] using h0, by simp⟩
    case round =>
      obtain ⟨j, hj, rfl, rfl, hle, rfl⟩ := hrel
      by_cases hlt : j < l.length
      · obtain ⟨x, rfl, hx, hc⟩ := HA.out j hlt
        have hm : (l.getD j .empty).size ≤ maxLen := HS.out _ (by simp [List.getD, hlt])
        unfold maxLen at hm
        have hsum : sumW l (j + 1) = sumW l j + (l.getD j .empty).size := rfl
        have hmo := sumW_mono l (show j + 1 ≤ l.length from hlt)
        have HSU := Lib.hid hsum
        rw [hsum] at hmo
        clear hsum
        generalize l.getD j .empty = y at *
        have hw : IntKind.i64.wrap ((k : Int) - (l.length : Int) - (sumW l j : Nat) - (y.size : Nat)) = (k : Int) - (l.length : Int) - (sumW l j : Nat) - (y.size : Nat) := IntWalk.i64_in _ (by omega)
        by_cases h1 : l.length + (sumW l j + y.size) ≤ k
        · have g1 : decide ((k : Int) - (l.length : Int) - (sumW l j : Nat) - (y.size : Nat) < 0) = false := by simp; omega
          have k3 : (0 : Int) ≤ (j : Int) := by omega
          have k5 : (j : Int) < (l.length : Int) := by omega
          clear hmo
          go_wp2_with fail
          clear hw g1
          go_roundw
          case rel => exact ⟨j + 1, by omega, by go_num, by rw [HSU.out]; congr 1; omega, by rw [HSU.out]; exact h1, trivial⟩
          case measure => simp [intOf]; omega
        · have g1 : decide ((k : Int) - (l.length : Int) - (sumW l j : Nat) - (y.size : Nat) < 0) = true := by simp; omega
          have HF := Lib.hid (show ¬ (l.length + sumW l l.length ≤ k) by omega)
          clear h1 hmo hle
          go_wp2_with fail
          go_ret
          exact ⟨by first | rfl | (rw [if_neg HF.out]; rfl), Below.refl _ _⟩
      · obtain rfl : j = l.length := by omega
        have HF := Lib.hid hle
        clear hle
        go_wp2_with fail
        go_ret
        exact ⟨by first | rfl | (rw [if_pos HF.out]; rfl), Below.refl _ _⟩
  · have g0 : decide ((k : Int) - (l.length : Int) < 0) = true := by simp; omega
    have hw : IntKind.i64.wrap ((k : Int) - (l.length : Int)) = (k : Int) - (l.length : Int) := IntWalk.i64_in _ (by omega)
    have HF := Lib.hid (show ¬ (l.length + sumW l l.length ≤ k) by omega)
    go_enter Tryd.func16, Tryd.ntmps16
    go_wp2_with fail
    go_ret
    exact ⟨by first | rfl | (rw [if_neg HF.out]; rfl), Below.refl _ _⟩
end Go.Proofs.YtibpajlfcknegaaDoor.kit
