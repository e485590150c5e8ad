/-
  The laws' helpers that compare, mark and check slices of Entry. Written by tools/gen_rows.py.
-/
import Derived.Test.YtkkgonkpmdlelaaDoorEnts2
import Derived.StillTailTactics
import Derived.Deep.RegionWith
import Derived.Deep.RegionHeld3
namespace Go.Proofs.YtkkgonkpmdlelaaDoor.kit
open Go.ChangeShapes Go.WideShapes Go.ChangeAt Go.RowKit
set_option linter.unusedVariables false

set_option maxRecDepth 100000 in
theorem eqOp (c c' : Int) (s s' : Int) (k k' : Int) (o o' : Int) (d d' : Int) (v v' : Int) (w : World) : Calls Tryd.prog 91 #[.agg #[.int .i64 c, .int .i64 s, .int .i64 k, .int .i64 o, .int .i64 d, .int .i64 v], .agg #[.int .i64 c', .int .i64 s', .int .i64 k', .int .i64 o', .int .i64 d', .int .i64 v']] w fun e w' => e = .returned (.bool (decide (c = c' ∧ s = s' ∧ k = k' ∧ o = o' ∧ d = d' ∧ v = v'))) ∧ Below w.heap.size w w' := by
  by_cases h0 : c = c'
  case' neg =>
    have g0 : (c != c') = true := by rw [bne_iff_ne]; exact h0
    rw [show decide (c = c' ∧ s = s' ∧ k = k' ∧ o = o' ∧ d = d' ∧ v = v') = false from decide_eq_false (fun h => h0 h.1)]
    clear h0
    go_enter Tryd.func91, Tryd.ntmps91
    go_wp2_with fail
    go_ret
    exact ⟨rfl, by go_grown⟩
  subst h0
  by_cases h1 : s = s'
  case' neg =>
    have g1 : (s != s') = true := by rw [bne_iff_ne]; exact h1
    rw [show decide (c = c ∧ s = s' ∧ k = k' ∧ o = o' ∧ d = d' ∧ v = v') = false from decide_eq_false (fun h => h1 h.2.1)]
    clear h1
    go_enter Tryd.func91, Tryd.ntmps91
    go_wp2_with fail
    go_ret
    exact ⟨rfl, by go_grown⟩
  subst h1
  by_cases h2 : k = k'
  case' neg =>
    have g2 : (k != k') = true := by rw [bne_iff_ne]; exact h2
    rw [show decide (c = c ∧ s = s ∧ k = k' ∧ o = o' ∧ d = d' ∧ v = v') = false from decide_eq_false (fun h => h2 h.2.2.1)]
    clear h2
    go_enter Tryd.func91, Tryd.ntmps91
    go_wp2_with fail
    go_ret
    exact ⟨rfl, by go_grown⟩
  subst h2
  by_cases h3 : o = o'
  case' neg =>
    have g3 : (o != o') = true := by rw [bne_iff_ne]; exact h3
    rw [show decide (c = c ∧ s = s ∧ k = k ∧ o = o' ∧ d = d' ∧ v = v') = false from decide_eq_false (fun h => h3 h.2.2.2.1)]
    clear h3
    go_enter Tryd.func91, Tryd.ntmps91
    go_wp2_with fail
    go_ret
    exact ⟨rfl, by go_grown⟩
  subst h3
  by_cases h4 : d = d'
  case' neg =>
    have g4 : (d != d') = true := by rw [bne_iff_ne]; exact h4
    rw [show decide (c = c ∧ s = s ∧ k = k ∧ o = o ∧ d = d' ∧ v = v') = false from decide_eq_false (fun h => h4 h.2.2.2.2.1)]
    clear h4
    go_enter Tryd.func91, Tryd.ntmps91
    go_wp2_with fail
    go_ret
    exact ⟨rfl, by go_grown⟩
  subst h4
  by_cases h5 : v = v'
  case' neg =>
    have g5 : (v != v') = true := by rw [bne_iff_ne]; exact h5
    rw [show decide (c = c ∧ s = s ∧ k = k ∧ o = o ∧ d = d ∧ v = v') = false from decide_eq_false (fun h => h5 h.2.2.2.2.2)]
    clear h5
    go_enter Tryd.func91, Tryd.ntmps91
    go_wp2_with fail
    go_ret
    exact ⟨rfl, by go_grown⟩
  subst h5
  rw [show decide (c = c ∧ s = s ∧ k = k ∧ o = o ∧ d = d ∧ v = v) = true from decide_eq_true ⟨rfl, rfl, rfl, rfl, rfl, rfl⟩]
  go_enter Tryd.func91, Tryd.ntmps91
  go_wp2_with fail
  go_ret
  exact ⟨rfl, by go_grown⟩
set_option maxRecDepth 100000 in
theorem eqEntry (x y : Ent) (w : World) : Calls Tryd.prog 58 #[entV x, entV y] w fun e w' => e = .returned (.bool (decide (x = y))) ∧ Below w.heap.size w w' := by
  obtain ⟨xe, xc, xs, xk, xo, xd, xv⟩ := x
  obtain ⟨ye, yc, ys, yk, yo, yd, yv⟩ := y
  unfold entV
  simp only
  by_cases h0 : xe = ye
  case' neg =>
    have g0 : (xe != ye) = true := by rw [bne_iff_ne]; exact h0
    rw [show decide ((⟨xe, xc, xs, xk, xo, xd, xv⟩ : Ent) = ⟨ye, yc, ys, yk, yo, yd, yv⟩) = false from decide_eq_false (fun h => by injection h; contradiction)]
    clear h0
    go_enter Tryd.func58, Tryd.ntmps58
    go_wp2_with fail
    go_ret
    exact ⟨rfl, by go_grown⟩
  subst h0
  have j := fun w => eqOp xc yc xs ys xk yk xo yo xd yd xv yv w
  have e : decide ((⟨xe, xc, xs, xk, xo, xd, xv⟩ : Ent) = ⟨xe, yc, ys, yk, yo, yd, yv⟩) = decide (xc = yc ∧ xs = ys ∧ xk = yk ∧ xo = yo ∧ xd = yd ∧ xv = yv) := by rw [decide_eq_decide]; constructor; (intro h; injection h with _ h1 h2 h3 h4 h5 h6; exact ⟨h1, h2, h3, h4, h5, h6⟩); (rintro ⟨rfl, rfl, rfl, rfl, rfl, rfl⟩; rfl)
  rw [e]
  clear e
  generalize decide (xc = yc ∧ xs = ys ∧ xk = yk ∧ xo = yo ∧ xd = yd ∧ xv = yv) = r at j
  cases r <;>
  (go_enter Tryd.func58, Tryd.ntmps58
   go_wp2_with (go_at_call 91; refine (j _).mono ?_; rintro e w1 ⟨rfl, hb⟩)
   go_ret
   exact ⟨rfl, below2 hb (by simp; omega)⟩)
theorem eq_takeE {a b : List Ent} {k : Nat} (hl : a.length = b.length) (hk : a.length ≤ k) (h : ∀ j, j < k → gE a j = gE b j) : a = b := by
  apply List.ext_getElem hl
  intro j h1 h2
  have := h j (by omega)
  rw [gE_eq h1, gE_eq h2] at this
  exact this
set_option maxRecDepth 100000 in
theorem eqEntryS (a1 a2 : Option Addr) (c1 c2 : Nat) (l1 l2 : List Ent) (w : World) (h1 : l1.length ≤ 2097152) (h2 : l2.length ≤ 2097152) (ha1 : AtE w a1 l1) (ha2 : AtE w a2 l2) :
    Calls Tryd.prog 17 #[.slice a1 l1.length c1, .slice a2 l2.length c2] w fun e w' => e = .returned (.bool (decide (l1 = l2))) ∧ Below w.heap.size w w' := by
  have HA1 := Lib.hid ha1
  have HA2 := Lib.hid ha2
  clear ha1 ha2
  by_cases hn : l1.length = l2.length
  · have g1 : (((l1.length : Nat) : Int) != (l2.length : Nat)) = false := by simp [hn]
    have HN := Lib.hid hn
    clear hn
    go_enter Tryd.func17, Tryd.ntmps17
    go_wp2_with fail
    clear g1
    go_loopw [5] (fun i wr => ∃ k : Nat, k ≤ l1.length ∧ i = .int .i64 k ∧ Hid (∀ j, j < k → gE l1 j = gE l2 j) ∧ Hid (Below w.heap.size w wr)) (fun i _ => l1.length - (intOf i).toNat)
    case atStart => exact ⟨0, Nat.zero_le _, rfl, Lib.hid (fun j h => by omega), Lib.hid (Below.refl _ _)⟩
    case round =>
      obtain ⟨k, hk, rfl, HE, HQ⟩ := hrel
      by_cases hlt : k < l1.length
      · have hsz := HQ.out.size
        obtain ⟨g, o, rfl, hg, hc1⟩ := HA1.out k hlt
        obtain ⟨c0, c1, c2, c3, c4, c5, c6⟩ := hc1.below HQ.out hg
        obtain ⟨g', o', rfl, hg', hc2⟩ := HA2.out k (by have := HN.out; omega)
        obtain ⟨d0, d1, d2, d3, d4, d5, d6⟩ := hc2.below HQ.out hg'
        clear hc1 hc2
        have hlt2 : k < l2.length := by have := HN.out; omega
        go_wp2_with fail
        go_still_tail 8, (by kernel_rfl)
        change wpList _ _ _ _ _ wr.drew
        go_wp2_with fail
        have hq := eqEntry (gE l1 k) (gE l2 k) wr.drew
        by_cases hz : gE l1 k = gE l2 k
        · rw [decide_eq_true hz] at hq
          have HE2 := Lib.hid (show ∀ j, j < k + 1 → gE l1 j = gE l2 j from fun j hj => by
            by_cases e : j = k
            · rw [e]; exact hz
            · exact HE.out j (by omega))
          clear hz
          refine hq.mono ?_
          rintro e w1 ⟨rfl, hb⟩
          have HQ2 := Lib.hid (HQ.out.drew.trans (hb.mono (by simpa using hsz)))
          clear hb hq c0 c1 c2 c3 c4 c5 c6 d0 d1 d2 d3 d4 d5 d6 hsz
          go_wp2_with fail
          go_roundw
          case rel => exact ⟨k + 1, by omega, by go_num, HE2, HQ2⟩
          case measure => simp [intOf]; omega
        · have HF := Lib.hid (show l1 ≠ l2 from fun e => hz (by rw [e]))
          rw [decide_eq_false hz] at hq
          clear hz
          refine hq.mono ?_
          rintro e w1 ⟨rfl, hb⟩
          have HQ2 := Lib.hid (HQ.out.drew.trans (hb.mono (by simpa using hsz)))
          clear hb hq c0 c1 c2 c3 c4 c5 c6 d0 d1 d2 d3 d4 d5 d6 hsz
          go_wp2_with fail
          go_ret
          exact ⟨by rw [decide_eq_false (HF.out)]; rfl, HQ2.out⟩
      · have HF := Lib.hid (show l1 = l2 from eq_takeE HN.out (by omega) HE.out)
        go_wp2_with fail
        go_ret
        exact ⟨by rw [decide_eq_true (HF.out)]; rfl, HQ.out⟩
  · have g1 : (((l1.length : Nat) : Int) != (l2.length : Nat)) = true := by simp; omega
    have HF := Lib.hid (show l1 ≠ l2 from fun e => hn (by rw [e]))
    clear hn
    go_enter Tryd.func17, Tryd.ntmps17
    go_wp2_with fail
    go_ret
    exact ⟨by rw [decide_eq_false (HF.out)]; rfl, Below.refl _ _⟩
theorem eqEntrySO (b1 b2 : Nat) (v1 v2 : Value) (l1 l2 : List Ent) (w : World) (h1 : l1.length ≤ 2097152) (h2 : l2.length ≤ 2097152) (o1 : OwnE b1 w v1 l1) (o2 : OwnE b2 w v2 l2) :
    Calls Tryd.prog 17 #[v1, v2] w fun e w' => e = .returned (.bool (decide (l1 = l2))) ∧ Below w.heap.size w w' := by
  obtain ⟨a1, c1, rfl, _, _, t1, _⟩ := o1.form
  obtain ⟨a2, c2, rfl, _, _, t2, _⟩ := o2.form
  exact eqEntryS a1 a2 c1 c2 l1 l2 w h1 h2 t1 t2
/-- what marking leaves -/
def markE (k : Int) (j : Nat) : Ent := ⟨k + 7 * (j : Int), k + 7 * (j : Int) + 1, k + 7 * (j : Int) + 1 + 1, k + 7 * (j : Int) + 1 + 1 + 1, k + 7 * (j : Int) + 1 + 1 + 1 + 1, k + 7 * (j : Int) + 1 + 1 + 1 + 1 + 1, k + 7 * (j : Int) + 1 + 1 + 1 + 1 + 1 + 1⟩
def marksE (k : Int) (n : Nat) : List Ent := (List.range n).map (markE k)
theorem marksE_len (k : Int) (n : Nat) : (marksE k n).length = n := by simp [marksE]
theorem marksE_get (k : Int) (n j : Nat) (h : j < n) : gE (marksE k n) j = markE k j := by simp [marksE, gE, List.getD, h]
theorem marksE_succ (k : Int) (j : Nat) : marksE k (j + 1) = marksE k j ++ [markE k j] := by simp [marksE, List.range_succ]
theorem marksE_set (k : Int) (j : Nat) (l : List Ent) (h : j < l.length) : (marksE k j ++ l.drop j).set j (markE k j) = marksE k (j + 1) ++ l.drop (j + 1) := by
  rw [marksE_succ, List.drop_eq_getElem_cons h, List.set_append_right (h := by rw [marksE_len]; exact Nat.le_refl _), marksE_len, Nat.sub_self, List.set_cons_zero, List.append_assoc]
  rfl
set_option maxRecDepth 100000 in
set_option maxHeartbeats 4000000 in
theorem markEntryS (base : Nat) (k : Int) (v : Value) (l : List Ent) (w : World) (hl : l.length ≤ 2097152) (hk0 : 0 ≤ k) (hk : k ≤ 1000000000) (hown : OwnE base w v l) :
    Calls Tryd.prog 18 #[v, .int .i64 k] w fun e w' => e = .returned (.int .i64 (k + 7 * (l.length : Int))) ∧ OwnE base w' v (marksE k l.length) ∧ w.grownBy w' v.ownBlock := by
  obtain ⟨a, cap, rfl, hlc, hcm, hat, hbl⟩ := hown.form
  have HO := Lib.hid hown
  clear hown hat
  go_enter Tryd.func18, Tryd.ntmps18
  go_wp2_with fail
  go_loopw [1, 5] (fun m i wr => ∃ j : Nat, j ≤ l.length ∧ i = .int .i64 j ∧ m = .int .i64 (k + 7 * (j : Int)) ∧ OwnE base wr (.slice a l.length cap) (marksE k j ++ l.drop j) ∧ w.grownBy wr (Value.slice a l.length cap).ownBlock) (fun _ i _ => l.length - (intOf i).toNat)
  case atStart => exact ⟨0, Nat.zero_le _, rfl, by simp, HO.out, ⟨rfl, rfl, rfl, Nat.le_refl _, fun _ _ _ => rfl⟩⟩
  case round =>
    obtain ⟨j, hj, rfl, rfl, hown, hg⟩ := hrel
    have hlen : (marksE k j ++ l.drop j).length = l.length := by rw [List.length_append, marksE_len, List.length_drop]; omega
    by_cases hlt : j < l.length
    · obtain ⟨g, cap', he, _, _, hbg, hgl⟩ := hown.there (by omega)
      rw [hlen] at he
      injection he with he1 _ he3
      subst he1
      subst he3
      rw [← hlen] at hown
      obtain ⟨d0, d1, d2, d3, d4, d5, d6⟩ := hown.at j (by rw [hlen]; exact hlt)
      have f0 := hown.row.frozenAt (j * 7)
      have f1 := hown.row.frozenAt (j * 7 + 1)
      have f2 := hown.row.frozenAt (j * 7 + 2)
      have f3 := hown.row.frozenAt (j * 7 + 3)
      have f4 := hown.row.frozenAt (j * 7 + 4)
      have f5 := hown.row.frozenAt (j * 7 + 5)
      have f6 := hown.row.frozenAt (j * 7 + 6)
      have HW := Lib.hid hown
      have HL := Lib.hid hlen
      clear hown hlen
      go_wp2_with fail
      go_roundw
      case rel =>
        have q0 := HW.out.row.stored (j * 7) (.int .i64 (markE k j).e)
        have q1 := q0.1.stored (j * 7 + 1) (.int .i64 (markE k j).c)
        have q2 := q1.1.stored (j * 7 + 2) (.int .i64 (markE k j).s)
        have q3 := q2.1.stored (j * 7 + 3) (.int .i64 (markE k j).k)
        have q4 := q3.1.stored (j * 7 + 4) (.int .i64 (markE k j).o)
        have q5 := q4.1.stored (j * 7 + 5) (.int .i64 (markE k j).d)
        have q6 := q5.1.stored (j * 7 + 6) (.int .i64 (markE k j).v)
        have qe := OwnE.of q6.1 (cellsE_set (marksE k j ++ l.drop j) j (markE k j) (by rw [HL.out]; exact hlt))
        rw [marksE_set k j l hlt, HL.out] at qe
        exact ⟨j + 1, by omega, by go_num, by congr 1; omega, qe, (gtrans (gtrans (gtrans (gtrans (gtrans (gtrans (gtrans hg q0.2) q1.2) q2.2) q3.2) q4.2) q5.2) q6.2)⟩
      case measure => simp [intOf]; omega
    · obtain rfl : j = l.length := by omega
      have HW := Lib.hid hown
      have HG := Lib.hid hg
      clear hown hlen hg
      go_wp2_with fail
      go_ret
      exact ⟨rfl, by have := HW.out; rw [List.drop_length, List.append_nil] at this; exact this, HG.out⟩
set_option maxRecDepth 100000 in
set_option maxHeartbeats 4000000 in
theorem heldEntryS (base : Nat) (k : Int) (n : Nat) (v : Value) (w : World) (hl : n ≤ 2097152) (hk0 : 0 ≤ k) (hk : k ≤ 1000000000) (hown : OwnE base w v (marksE k n)) :
    Calls Tryd.prog 19 #[v, .int .i64 k] w fun e w' => e = .returned (.int .i64 (k + 7 * (n : Int))) ∧ w = w' := by
  obtain ⟨a, cap, rfl, hlc, hcm, hat, hbl⟩ := hown.form
  rw [marksE_len] at hlc ⊢
  have HA := Lib.hid hat
  clear hown hat
  go_enter Tryd.func19, Tryd.ntmps19
  go_wp2_with fail
  go_loop [1, 5] (fun m i => ∃ j : Nat, j ≤ n ∧ i = .int .i64 j ∧ m = .int .i64 (k + 7 * (j : Int))) (fun _ i => n - (intOf i).toNat)
  case atStart => exact ⟨0, Nat.zero_le _, rfl, by simp⟩
  case round =>
    obtain ⟨j, hj, rfl, rfl⟩ := hrel
    by_cases hlt : j < n
    · obtain ⟨g, o, rfl, hx, hc⟩ := HA.out j (by rw [marksE_len]; exact hlt)
      rw [marksE_get k n j hlt] at hc
      obtain ⟨c0, c1, c2, c3, c4, c5, c6⟩ := hc
      unfold markE at c0 c1 c2 c3 c4 c5 c6
      simp only at c0 c1 c2 c3 c4 c5 c6
      have hne : ∀ b : Bool, (b != b) = false := fun b => by cases b <;> rfl
      go_wp2_with fail
      go_round
      case rel => exact ⟨j + 1, by omega, by go_num, by congr 1; omega⟩
      case measure => simp [intOf]; omega
    · obtain rfl : j = n := by omega
      go_wp2_with fail
      go_ret
      exact ⟨rfl, rfl⟩
end Go.Proofs.YtkkgonkpmdlelaaDoor.kit
