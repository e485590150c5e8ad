/-
  The laws' helpers that copy and measure slices of Place. Written by tools/gen_rows.py.
-/
import Derived.Test.YtpdpejlcilnafaaPlas
import Derived.Handy
import Derived.OwnWalk
namespace Go.Proofs.Ytpdpejlcilnafaa.kit
open Go.ChangeShapes Go.WideShapes Go.ChangeAt Go.RowKit
set_option linter.unusedVariables false

set_option maxRecDepth 100000 in
set_option maxHeartbeats 4000000 in
theorem toPlace (x : Pla) (w : World) : Calls Try.prog 59 #[plaV x] w fun e w' => e = .returned (plaV x) ∧ Below w.heap.size w w' := by
  obtain ⟨xr, xc, xl⟩ := x
  unfold plaV
  simp only
  go_enter Try.func59, Try.ntmps59
  go_wp2
  go_returns
  exact ⟨rfl, by go_grown⟩
theorem toPlace7 (xr : Int) (xc : Int) (xl : Int) (w : World) : Calls Try.prog 59 #[.agg #[.int .i64 xr, .int .i64 xc, .int .i64 xl]] w fun e w' => e = .returned (.agg #[.int .i64 xr, .int .i64 xc, .int .i64 xl]) ∧ Below w.heap.size w w' := toPlace ⟨xr, xc, xl⟩ w
set_option maxRecDepth 100000 in
theorem szPlaceS (a : Option Addr) (n c : Nat) (k : Int) (w : World) (hn : n ≤ 9223372036854775807) (hk0 : 0 ≤ k) (hk : k ≤ 1048576) :
    Calls Try.prog 30 #[.slice a n c, .int .i64 k] w fun e w' => e = .returned (.int .i64 (if (n : Int) ≤ k then k - n else -1)) ∧ w = w' := by
  by_cases h : (n : Int) ≤ k
  · rw [if_pos h]
    go_enter Try.func30, Try.ntmps30
    go_wp2_with fail
    go_ret
    exact ⟨rfl, rfl⟩
  · rw [if_neg h]
    go_enter Try.func30, Try.ntmps30
    go_wp2_with fail
    go_ret
    exact ⟨rfl, rfl⟩
theorem gQ_rep (n j : Nat) : gQ (List.replicate n z0Q) j = z0Q := by
  by_cases h : j < n
  · simp [gQ, List.getD, h]
  · simp [gQ, List.getD, h]
theorem made_pla (n : Nat) : (madeCells #[.int .i64 0, .int .i64 0, .int .i64 0] (n * 3)).toList = cellsQ (List.replicate n z0Q) := by
  apply List.ext_getElem?
  intro j
  by_cases hj : j < n * 3
  · have e : j = j / 3 * 3 + j % 3 := by omega
    have h1 : (cellsQ (List.replicate n z0Q))[j]? = (plaC z0Q)[j % 3]? := by
      conv => lhs; rw [e]
      rw [cellsQ_at _ (j / 3) (by simp; omega) (j % 3) (by omega), gQ_rep]
    rw [h1]
    have h4 : j % 3 < 3 := by omega
    simp only [madeCells, Array.toList_map, List.getElem?_map, Array.toList_range, List.getElem?_range hj, Option.map_some]
    generalize j % 3 = k at h4
    match k, h4 with
    | 0, _ => rfl
    | 1, _ => rfl
    | 2, _ => rfl
  · rw [List.getElem?_eq_none (by simp [madeCells]; omega), List.getElem?_eq_none (by rw [cellsQ_len]; simp; omega)]
/-- the row's list behind a store of a whole one -/
theorem cellsQ_set (l : List Pla) (k : Nat) (x : Pla) (hk : k < l.length) :
    ((((cellsQ l).set (k * 3) (.int .i64 x.r)).set (k * 3 + 1) (.int .i64 x.c)).set (k * 3 + 2) (.int .i64 x.l)) = cellsQ (l.set k x) := by
  have e : l = l.take k ++ [l[k]] ++ l.drop (k + 1) := by simp
  have e2 : l.set k x = l.take k ++ [x] ++ l.drop (k + 1) := by rw [List.set_eq_take_append_cons_drop]; simp [hk]
  have hl : (cellsQ (l.take k)).length = k * 3 := by rw [cellsQ_len]; simp; omega
  rw [e2]
  conv => lhs; rw [e]
  simp only [cellsQ_app]
  have f := fun (b : List Value) (i : Nat) (u : Value) (hb : i < b.length) => set_app_mid (cellsQ (l.take k)) b (cellsQ (l.drop (k + 1))) i u hb
  rw [hl] at f
  have f0 := f (cellsQ [l[k]]) 0 (.int .i64 x.r) (by simp [cellsQ])
  simp only [Nat.add_zero] at f0
  rw [f0, f _ 1 _ (by simp [cellsQ]), f _ 2 _ (by simp [cellsQ])]
  simp [cellsQ]
/-- what copying k of them has laid -/
def partQ (L : List Pla) (k : Nat) : List Pla := L.take k ++ List.replicate (L.length - k) z0Q
theorem partQ_len (L : List Pla) (k : Nat) (h : k ≤ L.length) : (partQ L k).length = L.length := by simp [partQ]; omega
theorem partQ_zero (L : List Pla) : partQ L 0 = List.replicate L.length z0Q := by simp [partQ]
theorem partQ_all (L : List Pla) : partQ L L.length = L := by simp [partQ]
theorem partQ_set (L : List Pla) (k : Nat) (h : k < L.length) : (partQ L k).set k (gQ L k) = partQ L (k + 1) := by
  unfold partQ
  have e : L.length - k = (L.length - (k + 1)) + 1 := by omega
  rw [e, List.replicate_succ, List.set_append_right (h := by simp; omega)]
  have e2 : k - (L.take k).length = 0 := by simp; omega
  rw [e2, List.set_cons_zero, gQ_eq h, List.take_succ_eq_append_getElem h, List.append_assoc]
  rfl
set_option maxRecDepth 100000 in
theorem toPlaceS (a : Option Addr) (c : Nat) (L : List Pla) (w : World) (hl : L.length ≤ 2097152) (ha : AtQ w a L) :
    Calls Try.prog 31 #[.slice a L.length c] w fun e w' => ∃ v, e = .returned v ∧ OwnQ w.heap.size w' v L ∧ Below w.heap.size w w' := by
  obtain ⟨i0, hi, hz0, hz1, hz2⟩ := info_parts infoQ
  have hmk : ∀ W : World, (Instr.makeSlice 24 (.int .i64 (L.length : Int)) (.int .i64 (L.length : Int))).run Try.prog W = .ok (.slice (some ⟨W.heap.size, 0, none⟩) L.length L.length) (W.alloc (.cells (madeCells #[.int .i64 0, .int .i64 0, .int .i64 0] (L.length * 3)) 61)) := fun W => by
    have h := run_makeSlice (P := Try.prog) W 24 61 i0 _ Try.underlying24 hi hz0 .i64 .i64 (L.length : Int) (L.length : Int) (by omega) (by omega) (by rw [hz1]; simp; omega) (by rw [hz2]; omega) (by omega)
    rw [hz1] at h
    simpa [Value.cells] using h
  have HA := Lib.hid ha
  clear ha hi hz0 hz1 hz2
  have hst : (w.alloc (.cells (madeCells #[.int .i64 0, .int .i64 0, .int .i64 0] (L.length * 3)) 61)).ownsRow w.heap.size 61 3 (.slice (some ⟨w.heap.size, 0, none⟩) L.length L.length) L.length _ := World.ownsRow_lit w (madeCells #[.int .i64 0, .int .i64 0, .int .i64 0] (L.length * 3)) L.length (Nat.le_refl _) (by unfold maxLen; omega) (size_madeCells _ _)
  have HST := Lib.hid (OwnQ.of hst (by rw [made_pla, ← partQ_zero]))
  clear hst
  go_enter Try.func31, Try.ntmps31
  go_wp2_with fail
  clear hmk
  go_loopw [4] (fun i wr => ∃ k : Nat, k ≤ L.length ∧ i = .int .i64 k ∧ OwnQ w.heap.size wr (.slice (some ⟨w.heap.size, 0, none⟩) L.length L.length) (partQ L k) ∧ Below w.heap.size w wr) (fun i _ => L.length - (intOf i).toNat)
  case atStart => exact ⟨0, Nat.zero_le _, rfl, HST.out, (Below.refl _ _).alloc (Nat.le_refl _) _⟩
  case round =>
    clear HST
    obtain ⟨k, hk, rfl, hrow, hb⟩ := hrel
    by_cases hlt : k < L.length
    · obtain ⟨g, o, rfl, hx, hc⟩ := HA.out k hlt
      have hc' := hc.below hb hx
      obtain ⟨c0, c1, c2⟩ := hc'
      have HR := Lib.hid hrow
      have HB := Lib.hid hb
      have hs := hb.size
      have HX := Lib.hid hx
      clear hrow hc hb hx
      go_wp2_with fail
      refine (toPlace (gQ L k) _).mono ?_
      rintro e w1 ⟨rfl, hb1⟩
      have hr1 : OwnQ w.heap.size w1 (.slice (some ⟨w.heap.size, 0, none⟩) (partQ L k).length L.length) (partQ L k) := by rw [partQ_len L k hk]; exact HR.out.later hb1
      have hB1 := HB.out.trans (hb1.mono hs)
      have hwlt : w.heap.size < w1.heap.size := by
        obtain ⟨_, _, he, _, _, _, hlt1⟩ := hr1.there (by rw [partQ_len L k hk]; omega)
        injection he with he _ _
        injection he with he
        injection he with he _ _
        rw [← he] at hlt1; exact hlt1
      obtain ⟨d0, d1, d2⟩ := hr1.at k (by rw [partQ_len L k hk]; exact hlt)
      have f0 := hr1.row.frozenAt (k * 3)
      have f1 := hr1.row.frozenAt (k * 3 + 1)
      have f2 := hr1.row.frozenAt (k * 3 + 2)
      have HR1 := Lib.hid hr1
      replace HB := Lib.hid hB1
      clear HR hr1 hb1 hs hB1 c0 c1 c2 HX
      go_wp2_with fail
      go_roundw
      case rel =>
        refine ⟨k + 1, by omega, by go_num, ?_, (((HB.out.setCell (Nat.le_refl _) _).setCell (Nat.le_refl _) _).setCell (Nat.le_refl _) _)⟩
        have q0 := HR1.out.row.stored (k * 3) (.int .i64 (gQ L k).r)
        have q1 := q0.1.stored (k * 3 + 1) (.int .i64 (gQ L k).c)
        have q2 := q1.1.stored (k * 3 + 2) (.int .i64 (gQ L k).l)
        have qe := OwnQ.of q2.1 (cellsQ_set (partQ L k) k (gQ L k) (by rw [partQ_len L k hk]; exact hlt))
        rw [partQ_set L k hlt, partQ_len L k hk] at qe
        exact qe
      case measure => simp [intOf]; omega
    · obtain rfl : k = L.length := by omega
      have HR := Lib.hid hrow
      clear hrow
      go_wp2_with fail
      go_ret
      exact ⟨_, rfl, by have := HR.out; rw [partQ_all] at this; exact this, hb⟩
end Go.Proofs.Ytpdpejlcilnafaa.kit
