/-
  The laws' helpers that copy and measure slices of Entry. Written by tools/gen_rows.py.
-/
import Derived.Test.YtkkgonkpmdlelaaGreatDoorEnts
import Derived.Handy
import Derived.OwnWalk
namespace Go.Proofs.YtkkgonkpmdlelaaGreatDoor.kit
open Go.ChangeShapes Go.WideShapes Go.ChangeAt Go.RowKit
set_option linter.unusedVariables false

set_option maxRecDepth 100000 in
set_option maxHeartbeats 4000000 in
theorem toEntry (x : Ent) (w : World) : Calls Tryz.prog 70 #[entV x] w fun e w' => e = .returned (entV x) ∧ Below w.heap.size w w' := by
  obtain ⟨xe, xc, xs, xk, xo, xd, xv⟩ := x
  unfold entV
  simp only
  go_enter Tryz.func70, Tryz.ntmps70
  go_wp2
  go_returns
  exact ⟨rfl, by go_grown⟩
theorem toEntry7 (xe : Int) (xc : Int) (xs : Int) (xk : Int) (xo : Int) (xd : Int) (xv : Int) (w : World) : Calls Tryz.prog 70 #[.agg #[.int .i64 xe, .int .i64 xc, .int .i64 xs, .int .i64 xk, .int .i64 xo, .int .i64 xd, .int .i64 xv]] w fun e w' => e = .returned (.agg #[.int .i64 xe, .int .i64 xc, .int .i64 xs, .int .i64 xk, .int .i64 xo, .int .i64 xd, .int .i64 xv]) ∧ Below w.heap.size w w' := toEntry ⟨xe, xc, xs, xk, xo, xd, xv⟩ w
set_option maxRecDepth 100000 in
theorem szEntryS (a : Option Addr) (n c : Nat) (k : Int) (w : World) (hn : n ≤ 9223372036854775807) (hk0 : 0 ≤ k) (hk : k ≤ 1048576) :
    Calls Tryz.prog 27 #[.slice a n c, .int .i64 k] w fun e w' => e = .returned (.int .i64 (if (n : Int) ≤ k then k - n else -1)) ∧ w = w' := by
  by_cases h : (n : Int) ≤ k
  · rw [if_pos h]
    go_enter Tryz.func27, Tryz.ntmps27
    go_wp2_with fail
    go_ret
    exact ⟨rfl, rfl⟩
  · rw [if_neg h]
    go_enter Tryz.func27, Tryz.ntmps27
    go_wp2_with fail
    go_ret
    exact ⟨rfl, rfl⟩
theorem gE_rep (n j : Nat) : gE (List.replicate n z0E) j = z0E := by
  by_cases h : j < n
  · simp [gE, List.getD, h]
  · simp [gE, List.getD, h]
theorem made_ent (n : Nat) : (madeCells #[.int .i64 0, .int .i64 0, .int .i64 0, .int .i64 0, .int .i64 0, .int .i64 0, .int .i64 0] (n * 7)).toList = cellsE (List.replicate n z0E) := by
  apply List.ext_getElem?
  intro j
  by_cases hj : j < n * 7
  · have e : j = j / 7 * 7 + j % 7 := by omega
    have h1 : (cellsE (List.replicate n z0E))[j]? = (entC z0E)[j % 7]? := by
      conv => lhs; rw [e]
      rw [cellsE_at _ (j / 7) (by simp; omega) (j % 7) (by omega), gE_rep]
    rw [h1]
    have h4 : j % 7 < 7 := by omega
    simp only [madeCells, Array.toList_map, List.getElem?_map, Array.toList_range, List.getElem?_range hj, Option.map_some]
    generalize j % 7 = k at h4
    match k, h4 with
    | 0, _ => rfl
    | 1, _ => rfl
    | 2, _ => rfl
    | 3, _ => rfl
    | 4, _ => rfl
    | 5, _ => rfl
    | 6, _ => rfl
  · rw [List.getElem?_eq_none (by simp [madeCells]; omega), List.getElem?_eq_none (by rw [cellsE_len]; simp; omega)]
/-- the row's list behind a store of a whole one -/
theorem cellsE_set (l : List Ent) (k : Nat) (x : Ent) (hk : k < l.length) :
    ((((((((cellsE l).set (k * 7) (.int .i64 x.e)).set (k * 7 + 1) (.int .i64 x.c)).set (k * 7 + 2) (.int .i64 x.s)).set (k * 7 + 3) (.int .i64 x.k)).set (k * 7 + 4) (.int .i64 x.o)).set (k * 7 + 5) (.int .i64 x.d)).set (k * 7 + 6) (.int .i64 x.v)) = cellsE (l.set k x) := by
  have e : l = l.take k ++ [l[k]] ++ l.drop (k + 1) := by simp
  have e2 : l.set k x = l.take k ++ [x] ++ l.drop (k + 1) := by rw [List.set_eq_take_append_cons_drop]; simp [hk]
  have hl : (cellsE (l.take k)).length = k * 7 := by rw [cellsE_len]; simp; omega
  rw [e2]
  conv => lhs; rw [e]
  simp only [cellsE_app]
  have f := fun (b : List Value) (i : Nat) (u : Value) (hb : i < b.length) => set_app_mid (cellsE (l.take k)) b (cellsE (l.drop (k + 1))) i u hb
  rw [hl] at f
  have f0 := f (cellsE [l[k]]) 0 (.int .i64 x.e) (by simp [cellsE])
  simp only [Nat.add_zero] at f0
  rw [f0, f _ 1 _ (by simp [cellsE]), f _ 2 _ (by simp [cellsE]), f _ 3 _ (by simp [cellsE]), f _ 4 _ (by simp [cellsE]), f _ 5 _ (by simp [cellsE]), f _ 6 _ (by simp [cellsE])]
  simp [cellsE]
/-- what copying k of them has laid -/
def partE (L : List Ent) (k : Nat) : List Ent := L.take k ++ List.replicate (L.length - k) z0E
theorem partE_len (L : List Ent) (k : Nat) (h : k ≤ L.length) : (partE L k).length = L.length := by simp [partE]; omega
theorem partE_zero (L : List Ent) : partE L 0 = List.replicate L.length z0E := by simp [partE]
theorem partE_all (L : List Ent) : partE L L.length = L := by simp [partE]
theorem partE_set (L : List Ent) (k : Nat) (h : k < L.length) : (partE L k).set k (gE L k) = partE L (k + 1) := by
  unfold partE
  have e : L.length - k = (L.length - (k + 1)) + 1 := by omega
  rw [e, List.replicate_succ, List.set_append_right (h := by simp; omega)]
  have e2 : k - (L.take k).length = 0 := by simp; omega
  rw [e2, List.set_cons_zero, gE_eq h, List.take_succ_eq_append_getElem h, List.append_assoc]
  rfl
set_option maxRecDepth 100000 in
theorem toEntryS (a : Option Addr) (c : Nat) (L : List Ent) (w : World) (hl : L.length ≤ 2097152) (ha : AtE w a L) :
    Calls Tryz.prog 28 #[.slice a L.length c] w fun e w' => ∃ v, e = .returned v ∧ OwnE w.heap.size w' v L ∧ Below w.heap.size w w' := by
  obtain ⟨i0, hi, hz0, hz1, hz2⟩ := info_parts infoE
  have hmk : ∀ W : World, (Instr.makeSlice 24 (.int .i64 (L.length : Int)) (.int .i64 (L.length : Int))).run Tryz.prog W = .ok (.slice (some ⟨W.heap.size, 0, none⟩) L.length L.length) (W.alloc (.cells (madeCells #[.int .i64 0, .int .i64 0, .int .i64 0, .int .i64 0, .int .i64 0, .int .i64 0, .int .i64 0] (L.length * 7)) 108)) := fun W => by
    have h := run_makeSlice (P := Tryz.prog) W 24 108 i0 _ Tryz.underlying24 hi hz0 .i64 .i64 (L.length : Int) (L.length : Int) (by omega) (by omega) (by rw [hz1]; simp; omega) (by rw [hz2]; omega) (by omega)
    rw [hz1] at h
    simpa [Value.cells] using h
  have HA := Lib.hid ha
  clear ha hi hz0 hz1 hz2
  have hst : (w.alloc (.cells (madeCells #[.int .i64 0, .int .i64 0, .int .i64 0, .int .i64 0, .int .i64 0, .int .i64 0, .int .i64 0] (L.length * 7)) 108)).ownsRow w.heap.size 108 7 (.slice (some ⟨w.heap.size, 0, none⟩) L.length L.length) L.length _ := World.ownsRow_lit w (madeCells #[.int .i64 0, .int .i64 0, .int .i64 0, .int .i64 0, .int .i64 0, .int .i64 0, .int .i64 0] (L.length * 7)) L.length (Nat.le_refl _) (by unfold maxLen; omega) (size_madeCells _ _)
  have HST := Lib.hid (OwnE.of hst (by rw [made_ent, ← partE_zero]))
  clear hst
  go_enter Tryz.func28, Tryz.ntmps28
  go_wp2_with fail
  clear hmk
  go_loopw [4] (fun i wr => ∃ k : Nat, k ≤ L.length ∧ i = .int .i64 k ∧ OwnE w.heap.size wr (.slice (some ⟨w.heap.size, 0, none⟩) L.length L.length) (partE L k) ∧ Below w.heap.size w wr) (fun i _ => L.length - (intOf i).toNat)
  case atStart => exact ⟨0, Nat.zero_le _, rfl, HST.out, (Below.refl _ _).alloc (Nat.le_refl _) _⟩
  case round =>
    clear HST
    obtain ⟨k, hk, rfl, hrow, hb⟩ := hrel
    by_cases hlt : k < L.length
    · obtain ⟨g, o, rfl, hx, hc⟩ := HA.out k hlt
      have hc' := hc.below hb hx
      obtain ⟨c0, c1, c2, c3, c4, c5, c6⟩ := hc'
      have HR := Lib.hid hrow
      have HB := Lib.hid hb
      have hs := hb.size
      have HX := Lib.hid hx
      clear hrow hc hb hx
      go_wp2_with fail
      refine (toEntry (gE L k) _).mono ?_
      rintro e w1 ⟨rfl, hb1⟩
      have hr1 : OwnE w.heap.size w1 (.slice (some ⟨w.heap.size, 0, none⟩) (partE L k).length L.length) (partE L k) := by rw [partE_len L k hk]; exact HR.out.later hb1
      have hB1 := HB.out.trans (hb1.mono hs)
      have hwlt : w.heap.size < w1.heap.size := by
        obtain ⟨_, _, he, _, _, _, hlt1⟩ := hr1.there (by rw [partE_len L k hk]; omega)
        injection he with he _ _
        injection he with he
        injection he with he _ _
        rw [← he] at hlt1; exact hlt1
      obtain ⟨d0, d1, d2, d3, d4, d5, d6⟩ := hr1.at k (by rw [partE_len L k hk]; exact hlt)
      have f0 := hr1.row.frozenAt (k * 7)
      have f1 := hr1.row.frozenAt (k * 7 + 1)
      have f2 := hr1.row.frozenAt (k * 7 + 2)
      have f3 := hr1.row.frozenAt (k * 7 + 3)
      have f4 := hr1.row.frozenAt (k * 7 + 4)
      have f5 := hr1.row.frozenAt (k * 7 + 5)
      have f6 := hr1.row.frozenAt (k * 7 + 6)
      have HR1 := Lib.hid hr1
      replace HB := Lib.hid hB1
      clear HR hr1 hb1 hs hB1 c0 c1 c2 c3 c4 c5 c6 HX
      go_wp2_with fail
      go_roundw
      case rel =>
        refine ⟨k + 1, by omega, by go_num, ?_, (((((((HB.out.setCell (Nat.le_refl _) _).setCell (Nat.le_refl _) _).setCell (Nat.le_refl _) _).setCell (Nat.le_refl _) _).setCell (Nat.le_refl _) _).setCell (Nat.le_refl _) _).setCell (Nat.le_refl _) _)⟩
        have q0 := HR1.out.row.stored (k * 7) (.int .i64 (gE L k).e)
        have q1 := q0.1.stored (k * 7 + 1) (.int .i64 (gE L k).c)
        have q2 := q1.1.stored (k * 7 + 2) (.int .i64 (gE L k).s)
        have q3 := q2.1.stored (k * 7 + 3) (.int .i64 (gE L k).k)
        have q4 := q3.1.stored (k * 7 + 4) (.int .i64 (gE L k).o)
        have q5 := q4.1.stored (k * 7 + 5) (.int .i64 (gE L k).d)
        have q6 := q5.1.stored (k * 7 + 6) (.int .i64 (gE L k).v)
        have qe := OwnE.of q6.1 (cellsE_set (partE L k) k (gE L k) (by rw [partE_len L k hk]; exact hlt))
        rw [partE_set L k hlt, partE_len L k hk] at qe
        exact qe
      case measure => simp [intOf]; omega
    · obtain rfl : k = L.length := by omega
      have HR := Lib.hid hrow
      clear hrow
      go_wp2_with fail
      go_ret
      exact ⟨_, rfl, by have := HR.out; rw [partE_all] at this; exact this, hb⟩
end Go.Proofs.YtkkgonkpmdlelaaGreatDoor.kit
