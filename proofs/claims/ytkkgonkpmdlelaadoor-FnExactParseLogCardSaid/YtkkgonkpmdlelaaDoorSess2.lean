/-
  The laws' helpers that copy, measure and compare sessions and machines.
-/
import Derived.Test.YtkkgonkpmdlelaaDoorSess
import Derived.Handy
import Derived.OwnWalk
namespace Go.Proofs.YtkkgonkpmdlelaaDoor.kit
open Go.ChangeShapes Go.WideShapes Go.ChangeAt Go.RowKit
set_option linter.unusedVariables false

set_option maxRecDepth 100000 in
theorem toResultS (b : Bool) (v : Int) (w : World) : Calls Tryd.prog 135 #[.agg #[.bool b, .int .i64 v]] w fun e w' => e = .returned (.agg #[.bool b, .int .i64 v]) ∧ Below w.heap.size w w' := by
  go_enter Tryd.func135, Tryd.ntmps135
  go_wp2_with fail
  go_returns
  exact ⟨rfl, by go_grown⟩
set_option maxRecDepth 100000 in
theorem toSession (x : Sess) (w : World) : Calls Tryd.prog 121 #[sessV x] w fun e w' => e = .returned (sessV x) ∧ Below w.heap.size w w' := by
  obtain ⟨c, s, d, v⟩ := x
  unfold sessV
  simp only
  go_enter Tryd.func121, Tryd.ntmps121
  go_wp2_with fail
  refine (toResultS d v _).mono ?_
  rintro e w1 ⟨rfl, hb⟩
  obtain ⟨hcc, hff⟩ := bcell hb
  have hz := hb.size
  have r0 : w1.cell? ⟨w.heap.size + 1, 0, none⟩ = some (.int .i64 0) := by rw [hcc _ _ (by simp)]; go_simp
  have r1 : w1.cell? ⟨w.heap.size + 1, 1, none⟩ = some (.int .i64 0) := by rw [hcc _ _ (by simp)]; go_simp
  have r2 : w1.cell? ⟨w.heap.size + 1, 2, none⟩ = some (.bool false) := by rw [hcc _ _ (by simp)]; go_simp
  have r3 : w1.cell? ⟨w.heap.size + 1, 3, none⟩ = some (.int .i64 0) := by rw [hcc _ _ (by simp)]; go_simp
  have s0 : w1.cell? ⟨w.heap.size + 1 + 1, 0, none⟩ = some (.int .i64 c) := by rw [hcc _ _ (by simp)]; go_simp
  have s1 : w1.cell? ⟨w.heap.size + 1 + 1, 1, none⟩ = some (.int .i64 s) := by rw [hcc _ _ (by simp)]; go_simp
  have s2 : w1.cell? ⟨w.heap.size + 1 + 1, 2, none⟩ = some (.bool false) := by rw [hcc _ _ (by simp)]; go_simp
  have s3 : w1.cell? ⟨w.heap.size + 1 + 1, 3, none⟩ = some (.int .i64 0) := by rw [hcc _ _ (by simp)]; go_simp
  have HB := Lib.hid hb
  clear hb hcc hz
  go_wp2_with fail
  refine bodyPost_ret (v := sessV (c, s, d, v)) (by simp [results, Tryd.results121, go_sem, r0, r1, r2, r3]) rfl ⟨rfl, ?_⟩
  have hB := ((((Below.refl w.heap.size w).alloc (Nat.le_refl _) _).alloc (by simp) _).alloc (by simp; omega) _).trans (HB.out.mono (by simp; omega))
  go_grown
set_option maxRecDepth 100000 in
theorem szIntS (a : Option Addr) (n c : Nat) (k : Int) (w : World) (hn : n ≤ 9223372036854775807) (hk0 : 0 ≤ k) (hk : k ≤ 1048576) :
    Calls Tryd.prog 92 #[.slice a n c, .int .i64 k] w fun e w' => e = .returned (.int .i64 (if (n : Int) ≤ k then k - n else -1)) ∧ w = w' := by
  by_cases h : (n : Int) ≤ k
  · rw [if_pos h]
    go_enter Tryd.func92, Tryd.ntmps92
    go_wp2_with fail
    go_ret
    exact ⟨rfl, rfl⟩
  · rw [if_neg h]
    go_enter Tryd.func92, Tryd.ntmps92
    go_wp2_with fail
    go_ret
    exact ⟨rfl, rfl⟩
set_option maxRecDepth 100000 in
theorem szSessionS (a : Option Addr) (n c : Nat) (k : Int) (w : World) (hn : n ≤ 9223372036854775807) (hk0 : 0 ≤ k) (hk : k ≤ 1048576) :
    Calls Tryd.prog 93 #[.slice a n c, .int .i64 k] w fun e w' => e = .returned (.int .i64 (if (n : Int) ≤ k then k - n else -1)) ∧ w = w' := by
  by_cases h : (n : Int) ≤ k
  · rw [if_pos h]
    go_enter Tryd.func93, Tryd.ntmps93
    go_wp2_with fail
    go_ret
    exact ⟨rfl, rfl⟩
  · rw [if_neg h]
    go_enter Tryd.func93, Tryd.ntmps93
    go_wp2_with fail
    go_ret
    exact ⟨rfl, rfl⟩
/-- what is left behind a machine's measure; -1: too large -/
def left (k : Int) (n1 n2 : Nat) : Int := if (n1 : Int) + n2 ≤ k then k - n1 - n2 else -1
set_option maxRecDepth 100000 in
theorem szMachine (a1 : Option Addr) (n1 c1 : Nat) (a2 : Option Addr) (n2 c2 : Nat) (k : Int) (w : World) (h1 : n1 ≤ 9223372036854775807) (h2 : n2 ≤ 9223372036854775807) (hk0 : 0 ≤ k) (hk : k ≤ 1048576) :
    Calls Tryd.prog 59 #[.agg #[.slice a1 n1 c1, .slice a2 n2 c2], .int .i64 k] w fun e w' => e = .returned (.int .i64 (left k n1 n2)) ∧ Below w.heap.size w w' := by
  by_cases g1 : (n1 : Int) ≤ k
  · by_cases g2 : (n2 : Int) ≤ k - n1
    · have e : left k n1 n2 = k - n1 - n2 := by unfold left; rw [if_pos (by omega)]
      rw [e]
      have j1 := fun w => szIntS a1 n1 c1 k w h1 hk0 hk
      have j2 := fun w => szSessionS a2 n2 c2 (k - n1) w h2 (by omega) (by omega)
      rw [if_pos g1] at j1
      rw [if_pos g2] at j2
      go_enter Tryd.func59, Tryd.ntmps59
      go_wp2_with (first | (go_at_call 92; refine (j1 _).mono ?_; rintro e w1 ⟨rfl, rfl⟩) | (go_at_call 93; refine (j2 _).mono ?_; rintro e w1 ⟨rfl, rfl⟩))
      go_ret
      exact ⟨rfl, by go_grown⟩
    · have e : left k n1 n2 = -1 := by unfold left; rw [if_neg (by omega)]
      rw [e]
      have j1 := fun w => szIntS a1 n1 c1 k w h1 hk0 hk
      have j2 := fun w => szSessionS a2 n2 c2 (k - n1) w h2 (by omega) (by omega)
      rw [if_pos g1] at j1
      rw [if_neg g2] at j2
      go_enter Tryd.func59, Tryd.ntmps59
      go_wp2_with (first | (go_at_call 92; refine (j1 _).mono ?_; rintro e w1 ⟨rfl, rfl⟩) | (go_at_call 93; refine (j2 _).mono ?_; rintro e w1 ⟨rfl, rfl⟩))
      go_ret
      exact ⟨rfl, by go_grown⟩
  · have e : left k n1 n2 = -1 := by unfold left; rw [if_neg (by omega)]
    rw [e]
    have j1 := fun w => szIntS a1 n1 c1 k w h1 hk0 hk
    rw [if_neg g1] at j1
    go_enter Tryd.func59, Tryd.ntmps59
    go_wp2_with (first | (go_at_call 92; refine (j1 _).mono ?_; rintro e w1 ⟨rfl, rfl⟩))
    go_ret
    exact ⟨rfl, by go_grown⟩
theorem sg_rep (n j : Nat) : sg (List.replicate n z0) j = z0 := by
  by_cases h : j < n
  · simp [sg, List.getD, h]
  · simp [sg, List.getD, h]
theorem made_sess (n : Nat) : (madeCells #[.int .i64 0, .int .i64 0, .bool false, .int .i64 0] (n * 4)).toList = cellsS (List.replicate n z0) := by
  apply List.ext_getElem?
  intro j
  by_cases hj : j < n * 4
  · have e : j = j / 4 * 4 + j % 4 := by omega
    have h1 : (cellsS (List.replicate n z0))[j]? = (sessC z0)[j % 4]? := by
      conv => lhs; rw [e]
      rw [cellsS_at _ (j / 4) (by simp; omega) (j % 4) (by omega), sg_rep]
    rw [h1]
    have h4 : j % 4 < 4 := by omega
    simp only [madeCells, Array.toList_map, List.getElem?_map, Array.toList_range, List.getElem?_range hj, Option.map_some]
    generalize j % 4 = k at h4
    match k, h4 with
    | 0, _ => rfl
    | 1, _ => rfl
    | 2, _ => rfl
    | 3, _ => rfl
  · rw [List.getElem?_eq_none (by simp [madeCells]; omega), List.getElem?_eq_none (by rw [cellsS_len]; simp; omega)]
theorem set_app_mid {α : Type} (a b c : List α) (i : Nat) (x : α) (hi : i < b.length) : (a ++ b ++ c).set (a.length + i) x = a ++ b.set i x ++ c := by
  rw [List.set_append_left (h := by simp; omega), List.set_append_right (h := by omega)]
  congr 2
  rw [Nat.add_sub_cancel_left]
/-- the row's list behind a store of a whole session -/
theorem cellsS_set (l : List Sess) (k : Nat) (x : Sess) (hk : k < l.length) :
    ((((cellsS l).set (k * 4) (.int .i64 x.1)).set (k * 4 + 1) (.int .i64 x.2.1)).set (k * 4 + 2) (.bool x.2.2.1)).set (k * 4 + 3) (.int .i64 x.2.2.2) = cellsS (l.set k x) := by
  have e : l = l.take k ++ [l[k]] ++ l.drop (k + 1) := by simp
  have e2 : l.set k x = l.take k ++ [x] ++ l.drop (k + 1) := by rw [List.set_eq_take_append_cons_drop]; simp [hk]
  have hl : (cellsS (l.take k)).length = k * 4 := by rw [cellsS_len]; simp; omega
  rw [e2]
  conv => lhs; rw [e]
  simp only [cellsS_app]
  have f := fun (b : List Value) (i : Nat) (u : Value) (hb : i < b.length) => set_app_mid (cellsS (l.take k)) b (cellsS (l.drop (k + 1))) i u hb
  rw [hl] at f
  have f0 := f (cellsS [l[k]]) 0 (.int .i64 x.1) (by simp [cellsS])
  simp only [Nat.add_zero] at f0
  rw [f0, f _ 1 _ (by simp [cellsS]), f _ 2 _ (by simp [cellsS]), f _ 3 _ (by simp [cellsS])]
  simp [cellsS]
/-- what copying k sessions of n has laid -/
def part (L : List Sess) (k : Nat) : List Sess := L.take k ++ List.replicate (L.length - k) z0
theorem part_len (L : List Sess) (k : Nat) (h : k ≤ L.length) : (part L k).length = L.length := by simp [part]; omega
theorem part_zero (L : List Sess) : part L 0 = List.replicate L.length z0 := by simp [part]
theorem part_all (L : List Sess) : part L L.length = L := by simp [part]
theorem part_set (L : List Sess) (k : Nat) (h : k < L.length) : (part L k).set k (sg L k) = part L (k + 1) := by
  unfold part
  have e : L.length - k = (L.length - (k + 1)) + 1 := by omega
  rw [e, List.replicate_succ, List.set_append_right (h := by simp; omega)]
  have e2 : k - (L.take k).length = 0 := by simp; omega
  rw [e2, List.set_cons_zero, sg_eq h, List.take_succ_eq_append_getElem h, List.append_assoc]
  rfl
set_option maxRecDepth 100000 in
theorem toSessionS (a : Option Addr) (c : Nat) (L : List Sess) (w : World) (hl : L.length ≤ 4194304) (ha : AtS w a L) :
    Calls Tryd.prog 96 #[.slice a L.length c] w fun e w' => ∃ v, e = .returned v ∧ OwnS w.heap.size w' v L ∧ Below w.heap.size w w' := by
  obtain ⟨i0, hi, hz0, hz1, hz2⟩ := info_parts infoSess
  have hmk : ∀ W : World, (Instr.makeSlice 23 (.int .i64 (L.length : Int)) (.int .i64 (L.length : Int))).run Tryd.prog W = .ok (.slice (some ⟨W.heap.size, 0, none⟩) L.length L.length) (W.alloc (.cells (madeCells #[.int .i64 0, .int .i64 0, .bool false, .int .i64 0] (L.length * 4)) 67)) := fun W => by
    have h := run_makeSlice (P := Tryd.prog) W 23 67 i0 _ Tryd.underlying23 hi hz0 .i64 .i64 (L.length : Int) (L.length : Int) (by omega) (by omega) (by rw [hz1]; simp; omega) (by rw [hz2]; omega) (by omega)
    rw [hz1] at h
    simpa [Value.cells] using h
  have HA := Lib.hid ha
  clear ha hi hz0 hz1 hz2
  have hst : (w.alloc (.cells (madeCells #[.int .i64 0, .int .i64 0, .bool false, .int .i64 0] (L.length * 4)) 67)).ownsRow w.heap.size 67 4 (.slice (some ⟨w.heap.size, 0, none⟩) L.length L.length) L.length _ := World.ownsRow_lit w (madeCells #[.int .i64 0, .int .i64 0, .bool false, .int .i64 0] (L.length * 4)) L.length (Nat.le_refl _) (by unfold maxLen; omega) (size_madeCells _ _)
  have HST := Lib.hid (OwnS.of hst (by rw [made_sess, ← part_zero]))
  clear hst
  go_enter Tryd.func96, Tryd.ntmps96
  go_wp2_with fail
  clear hmk
  go_loopw [4] (fun i wr => ∃ k : Nat, k ≤ L.length ∧ i = .int .i64 k ∧ OwnS w.heap.size wr (.slice (some ⟨w.heap.size, 0, none⟩) L.length L.length) (part L k) ∧ Below w.heap.size w wr) (fun i _ => L.length - (intOf i).toNat)
  case atStart => exact ⟨0, Nat.zero_le _, rfl, HST.out, (Below.refl _ _).alloc (Nat.le_refl _) _⟩
  case round =>
    clear HST
    obtain ⟨k, hk, rfl, hrow, hb⟩ := hrel
    by_cases hlt : k < L.length
    · obtain ⟨g, o, rfl, hx, hc⟩ := HA.out k hlt
      have hc' := hc.below hb hx
      obtain ⟨c0, c1, c2, c3⟩ := hc'
      have HR := Lib.hid hrow
      have HB := Lib.hid hb
      have hs := hb.size
      have HX := Lib.hid hx
      clear hrow hc hb hx
      go_wp2_with fail
      refine (toSession (sg L k) _).mono ?_
      rintro e w1 ⟨rfl, hb1⟩
      have hr1 : OwnS w.heap.size w1 (.slice (some ⟨w.heap.size, 0, none⟩) (part L k).length L.length) (part L k) := by rw [part_len L k hk]; exact HR.out.later hb1
      have hB1 := HB.out.trans (hb1.mono hs)
      have hwlt : w.heap.size < w1.heap.size := by
        obtain ⟨_, _, he, _, _, _, hlt1⟩ := hr1.there (by rw [part_len L k hk]; omega)
        injection he with he _ _
        injection he with he
        injection he with he _ _
        rw [← he] at hlt1; exact hlt1
      obtain ⟨d0, d1, d2, d3⟩ := hr1.at k (by rw [part_len L k hk]; exact hlt)
      have f0 := hr1.row.frozenAt (k * 4)
      have f1 := hr1.row.frozenAt (k * 4 + 1)
      have f2 := hr1.row.frozenAt (k * 4 + 2)
      have f3 := hr1.row.frozenAt (k * 4 + 3)
      have HR1 := Lib.hid hr1
      replace HB := Lib.hid hB1
      clear HR hr1 hb1 hs hB1 c0 c1 c2 c3 HX
      go_wp2_with fail
      go_roundw
      case rel =>
        refine ⟨k + 1, by omega, by go_num, ?_, (((HB.out.setCell (Nat.le_refl _) _).setCell (Nat.le_refl _) _).setCell (Nat.le_refl _) _).setCell (Nat.le_refl _) _⟩
        have q0 := HR1.out.row.stored (k * 4) (.int .i64 (sg L k).1)
        have q1 := q0.1.stored (k * 4 + 1) (.int .i64 (sg L k).2.1)
        have q2 := q1.1.stored (k * 4 + 2) (.bool (sg L k).2.2.1)
        have q3 := q2.1.stored (k * 4 + 3) (.int .i64 (sg L k).2.2.2)
        have q4 := OwnS.of q3.1 (cellsS_set (part L k) k (sg L k) (by rw [part_len L k hk]; exact hlt))
        rw [part_set L k hlt, part_len L k hk] at q4
        exact q4
      case measure => simp [intOf]; omega
    · obtain rfl : k = L.length := by omega
      have HR := Lib.hid hrow
      clear hrow
      go_wp2_with fail
      go_ret
      exact ⟨_, rfl, by have := HR.out; rw [part_all] at this; exact this, hb⟩
end Go.Proofs.YtkkgonkpmdlelaaDoor.kit
