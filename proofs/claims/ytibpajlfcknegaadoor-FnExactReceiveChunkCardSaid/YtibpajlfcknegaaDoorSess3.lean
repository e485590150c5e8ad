/-
  The laws' helpers on sessions and machines: equal, marked, held.
-/
import Derived.Test.YtibpajlfcknegaaDoorSess2
import Derived.StillTailTactics
import Derived.Deep.RegionWith
import Derived.Deep.RegionHeld3
namespace Go.Proofs.YtibpajlfcknegaaDoor.kit
open Go.ChangeShapes Go.WideShapes Go.ChangeAt Go.RowKit
set_option linter.unusedVariables false

set_option maxRecDepth 100000 in
theorem eqResult (b1 : Bool) (v1 : Int) (b2 : Bool) (v2 : Int) (w : World) : Calls Tryd.prog 74 #[.agg #[.bool b1, .int .i64 v1], .agg #[.bool b2, .int .i64 v2]] w fun e w' => e = .returned (.bool (decide (b1 = b2) && decide (v1 = v2))) ∧ Below w.heap.size w w' := by
  by_cases h2 : v1 = v2
  · subst h2
    cases b1 <;> cases b2 <;> (go_enter Tryd.func74, Tryd.ntmps74; go_wp2_with fail; go_ret; exact ⟨by simp, by go_grown⟩)
  · have g2 : (v1 != v2) = true := by rw [bne_iff_ne]; exact h2
    have HF := Lib.hid (decide_eq_false h2)
    clear h2
    cases b1 <;> cases b2 <;> (go_enter Tryd.func74, Tryd.ntmps74; go_wp2_with fail; go_ret; exact ⟨by rw [HF.out]; rfl, by go_grown⟩)
set_option maxRecDepth 100000 in
theorem eqSession (x y : Sess) (w : World) : Calls Tryd.prog 53 #[sessV x, sessV y] w fun e w' => e = .returned (.bool (decide (x = y))) ∧ Below w.heap.size w w' := by
  obtain ⟨c, s, d, v⟩ := x
  obtain ⟨c2, s2, d2, v2⟩ := y
  unfold sessV
  simp only
  by_cases h1 : c = c2
  · subst h1
    by_cases h2 : s = s2
    · subst h2
      have j := fun w => eqResult d v d2 v2 w
      have e : decide ((c, s, d, v) = (c, s, d2, v2)) = (decide (d = d2) && decide (v = v2)) := by simp
      rw [e]
      generalize (decide (d = d2) && decide (v = v2)) = r at j
      cases r
      · go_enter Tryd.func53, Tryd.ntmps53
        go_wp2_with (go_at_call 74; refine (j _).mono ?_; rintro e w1 ⟨rfl, hb⟩)
        go_ret
        exact ⟨rfl, below2 hb (by simp; omega)⟩
      · go_enter Tryd.func53, Tryd.ntmps53
        go_wp2_with (go_at_call 74; refine (j _).mono ?_; rintro e w1 ⟨rfl, hb⟩)
        go_ret
        exact ⟨rfl, below2 hb (by simp; omega)⟩
    · have g2 : (s != s2) = true := by rw [bne_iff_ne]; exact h2
      have HF := Lib.hid (show decide ((c, s, d, v) = (c, s2, d2, v2)) = false from decide_eq_false (by simp [h2]))
      clear h2
      go_enter Tryd.func53, Tryd.ntmps53
      go_wp2_with fail
      go_ret
      exact ⟨by rw [HF.out]; rfl, by go_grown⟩
  · have g2 : (c != c2) = true := by rw [bne_iff_ne]; exact h1
    have HF := Lib.hid (show decide ((c, s, d, v) = (c2, s2, d2, v2)) = false from decide_eq_false (by simp [h1]))
    clear h1
    go_enter Tryd.func53, Tryd.ntmps53
    go_wp2_with fail
    go_ret
    exact ⟨by rw [HF.out]; rfl, by go_grown⟩
theorem eq_takeS {a b : List Sess} {k : Nat} (hl : a.length = b.length) (hk : a.length ≤ k) (h : ∀ j, j < k → sg a j = sg b j) : a = b := by
  apply List.ext_getElem hl
  intro j h1 h2
  have := h j (by omega)
  rw [sg_eq h1, sg_eq h2] at this
  exact this
set_option maxRecDepth 100000 in
theorem eqSessionS (a1 a2 : Option Addr) (c1 c2 : Nat) (l1 l2 : List Sess) (w : World) (h1 : l1.length ≤ 4194304) (h2 : l2.length ≤ 4194304) (ha1 : AtS w a1 l1) (ha2 : AtS w a2 l2) :
    Calls Tryd.prog 31 #[.slice a1 l1.length c1, .slice a2 l2.length c2] w fun e w' => e = .returned (.bool (decide (l1 = l2))) ∧ Below w.heap.size w w' := by
  have HA1 := Lib.hid ha1
  have HA2 := Lib.hid ha2
  clear ha1 ha2
  by_cases hn : l1.length = l2.length
  · have g1 : (((l1.length : Nat) : Int) != (l2.length : Nat)) = false := by simp [hn]
    have HN := Lib.hid hn
    clear hn
    go_enter Tryd.func31, Tryd.ntmps31
    go_wp2_with fail
    clear g1
    go_loopw [5] (fun i wr => ∃ k : Nat, k ≤ l1.length ∧ i = .int .i64 k ∧ Hid (∀ j, j < k → sg l1 j = sg l2 j) ∧ Hid (Below w.heap.size w wr)) (fun i _ => l1.length - (intOf i).toNat)
    case atStart => exact ⟨0, Nat.zero_le _, rfl, Lib.hid (fun j h => by omega), Lib.hid (Below.refl _ _)⟩
    case round =>
      obtain ⟨k, hk, rfl, HE, HQ⟩ := hrel
      by_cases hlt : k < l1.length
      · have hsz := HQ.out.size
        obtain ⟨g, o, rfl, hg, hc1⟩ := HA1.out k hlt
        obtain ⟨c0, c1, c2, c3⟩ := hc1.below HQ.out hg
        obtain ⟨g', o', rfl, hg', hc2⟩ := HA2.out k (by have := HN.out; omega)
        obtain ⟨d0, d1, d2, d3⟩ := hc2.below HQ.out hg'
        clear hc1 hc2
        have hlt2 : k < l2.length := by have := HN.out; omega
        go_wp2_with fail
        go_still_tail 8, (by kernel_rfl)
        change wpList _ _ _ _ _ wr.drew
        go_wp2_with fail
        have hq := eqSession (sg l1 k) (sg l2 k) wr.drew
        by_cases hz : sg l1 k = sg l2 k
        · rw [decide_eq_true hz] at hq
          have HE2 := Lib.hid (show ∀ j, j < k + 1 → sg l1 j = sg l2 j from fun j hj => by
            by_cases e : j = k
            · rw [e]; exact hz
            · exact HE.out j (by omega))
          clear hz
          refine hq.mono ?_
          rintro e w1 ⟨rfl, hb⟩
          have HQ2 := Lib.hid (HQ.out.drew.trans (hb.mono (by simpa using hsz)))
          clear hb hq c0 c1 c2 c3 d0 d1 d2 d3 hsz
          go_wp2_with fail
          go_roundw
          case rel => exact ⟨k + 1, by omega, by go_num, HE2, HQ2⟩
          case measure => simp [intOf]; omega
        · have HF := Lib.hid (show l1 ≠ l2 from fun e => hz (by rw [e]))
          rw [decide_eq_false hz] at hq
          clear hz
          refine hq.mono ?_
          rintro e w1 ⟨rfl, hb⟩
          have HQ2 := Lib.hid (HQ.out.drew.trans (hb.mono (by simpa using hsz)))
          clear hb hq c0 c1 c2 c3 d0 d1 d2 d3 hsz
          go_wp2_with fail
          go_ret
          exact ⟨by rw [decide_eq_false (HF.out)]; rfl, HQ2.out⟩
      · have HF := Lib.hid (show l1 = l2 from eq_takeS HN.out (by omega) HE.out)
        go_wp2_with fail
        go_ret
        exact ⟨by rw [decide_eq_true (HF.out)]; rfl, HQ.out⟩
  · have g1 : (((l1.length : Nat) : Int) != (l2.length : Nat)) = true := by simp; omega
    have HF := Lib.hid (show l1 ≠ l2 from fun e => hn (by rw [e]))
    clear hn
    go_enter Tryd.func31, Tryd.ntmps31
    go_wp2_with fail
    go_ret
    exact ⟨by rw [decide_eq_false (HF.out)]; rfl, Below.refl _ _⟩
/-- what marking leaves, session for session -/
def markS (k : Int) (j : Nat) : Sess := (k + 4 * (j : Int), k + 4 * (j : Int) + 1, ((k + 4 * (j : Int) + 1 + 1) % 3 == 0), k + 4 * (j : Int) + 1 + 1 + 1)
def marksS (k : Int) (n : Nat) : List Sess := (List.range n).map (markS k)
theorem marksS_len (k : Int) (n : Nat) : (marksS k n).length = n := by simp [marksS]
theorem marksS_get (k : Int) (n j : Nat) (h : j < n) : sg (marksS k n) j = markS k j := by simp [marksS, sg, List.getD, h]
theorem marksS_succ (k : Int) (j : Nat) : marksS k (j + 1) = marksS k j ++ [markS k j] := by simp [marksS, List.range_succ]
theorem marksS_set (k : Int) (j : Nat) (l : List Sess) (h : j < l.length) : (marksS k j ++ l.drop j).set j (markS k j) = marksS k (j + 1) ++ l.drop (j + 1) := by
  rw [marksS_succ, List.drop_eq_getElem_cons h, List.set_append_right (h := by rw [marksS_len]; exact Nat.le_refl _), marksS_len, Nat.sub_self, List.set_cons_zero, List.append_assoc]
  rfl
set_option maxRecDepth 100000 in
theorem markSessionS (base : Nat) (k : Int) (v : Value) (l : List Sess) (w : World) (hl : l.length ≤ 4194304) (hk0 : 0 ≤ k) (hk : k ≤ 1000000000) (hown : OwnS base w v l) :
    Calls Tryd.prog 33 #[v, .int .i64 k] w fun e w' => e = .returned (.int .i64 (k + 4 * (l.length : Int))) ∧ OwnS base w' v (marksS k l.length) ∧ w.grownBy w' v.ownBlock := by
  obtain ⟨a, cap, rfl, hlc, hcm, hat, hbl⟩ := hown.form
  have HO := Lib.hid hown
  clear hown hat
  go_enter Tryd.func33, Tryd.ntmps33
  go_wp2_with fail
  go_loopw [1, 5] (fun m i wr => ∃ j : Nat, j ≤ l.length ∧ i = .int .i64 j ∧ m = .int .i64 (k + 4 * (j : Int)) ∧ OwnS base wr (.slice a l.length cap) (marksS k j ++ l.drop j) ∧ w.grownBy wr (Value.slice a l.length cap).ownBlock) (fun _ i _ => l.length - (intOf i).toNat)
  case atStart => exact ⟨0, Nat.zero_le _, rfl, by simp, HO.out, ⟨rfl, rfl, rfl, Nat.le_refl _, fun _ _ _ => rfl⟩⟩
  case round =>
    obtain ⟨j, hj, rfl, rfl, hown, hg⟩ := hrel
    have hlen : (marksS k j ++ l.drop j).length = l.length := by rw [List.length_append, marksS_len, List.length_drop]; omega
    by_cases hlt : j < l.length
    · obtain ⟨g, cap', he, _, _, hbg, hgl⟩ := hown.there (by omega)
      rw [hlen] at he
      injection he with he1 _ he3
      subst he1
      subst he3
      rw [← hlen] at hown
      obtain ⟨d0, d1, d2, d3⟩ := hown.at j (by rw [hlen]; exact hlt)
      have f0 := hown.row.frozenAt (j * 4)
      have f1 := hown.row.frozenAt (j * 4 + 1)
      have f2 := hown.row.frozenAt (j * 4 + 2)
      have f3 := hown.row.frozenAt (j * 4 + 3)
      have HW := Lib.hid hown
      have HL := Lib.hid hlen
      clear hown hlen
      go_wp2_with fail
      go_roundw
      case rel =>
        have q0 := HW.out.row.stored (j * 4) (.int .i64 (markS k j).1)
        have q1 := q0.1.stored (j * 4 + 1) (.int .i64 (markS k j).2.1)
        have q2 := q1.1.stored (j * 4 + 2) (.bool (markS k j).2.2.1)
        have q3 := q2.1.stored (j * 4 + 3) (.int .i64 (markS k j).2.2.2)
        have q4 := OwnS.of q3.1 (cellsS_set (marksS k j ++ l.drop j) j (markS k j) (by rw [HL.out]; exact hlt))
        rw [marksS_set k j l hlt, HL.out] at q4
        exact ⟨j + 1, by omega, by go_num, by congr 1; omega, q4, gtrans (gtrans (gtrans (gtrans hg q0.2) q1.2) q2.2) q3.2⟩
      case measure => simp [intOf]; omega
    · obtain rfl : j = l.length := by omega
      have HW := Lib.hid hown
      have HG := Lib.hid hg
      clear hown hlen hg
      go_wp2_with fail
      go_ret
      exact ⟨rfl, by have := HW.out; rw [List.drop_length, List.append_nil] at this; exact this, HG.out⟩
set_option maxRecDepth 100000 in
theorem heldSessionS (base : Nat) (k : Int) (n : Nat) (v : Value) (w : World) (hl : n ≤ 4194304) (hk0 : 0 ≤ k) (hk : k ≤ 1000000000) (hown : OwnS base w v (marksS k n)) :
    Calls Tryd.prog 35 #[v, .int .i64 k] w fun e w' => e = .returned (.int .i64 (k + 4 * (n : Int))) ∧ w = w' := by
  obtain ⟨a, cap, rfl, hlc, hcm, hat, hbl⟩ := hown.form
  rw [marksS_len] at hlc ⊢
  have HA := Lib.hid hat
  clear hown hat
  go_enter Tryd.func35, Tryd.ntmps35
  go_wp2_with fail
  go_loop [1, 5] (fun m i => ∃ j : Nat, j ≤ n ∧ i = .int .i64 j ∧ m = .int .i64 (k + 4 * (j : Int))) (fun _ i => n - (intOf i).toNat)
  case atStart => exact ⟨0, Nat.zero_le _, rfl, by simp⟩
  case round =>
    obtain ⟨j, hj, rfl, rfl⟩ := hrel
    by_cases hlt : j < n
    · obtain ⟨g, o, rfl, hx, hc⟩ := HA.out j (by rw [marksS_len]; exact hlt)
      rw [marksS_get k n j hlt] at hc
      obtain ⟨c0, c1, c2, c3⟩ := hc
      unfold markS at c0 c1 c2 c3
      simp only at c0 c1 c2 c3
      have hne : ∀ b : Bool, (b != b) = false := fun b => by cases b <;> rfl
      go_wp2_with fail
      go_round
      case rel => exact ⟨j + 1, by omega, by go_num, by congr 1; omega⟩
      case measure => simp [intOf]; omega
    · obtain rfl : j = n := by omega
      go_wp2_with fail
      go_ret
      exact ⟨rfl, rfl⟩
end Go.Proofs.YtibpajlfcknegaaDoor.kit
