/-
  The laws' helpers that compare, mark and check slices of Place. Written by tools/gen_rows.py.
-/
import Derived.Test.YtpdpejlcilnafaaPlas2
import Derived.StillTailTactics
import Derived.Deep.RegionWith
import Derived.Deep.RegionHeld3
namespace Go.Proofs.Ytpdpejlcilnafaa.kit
open Go.ChangeShapes Go.WideShapes Go.ChangeAt Go.RowKit
set_option linter.unusedVariables false

set_option maxRecDepth 100000 in
theorem eqPlace (x y : Pla) (w : World) : Calls Try.prog 63 #[plaV x, plaV y] w fun e w' => e = .returned (.bool (decide (x = y))) ∧ Below w.heap.size w w' := by
  obtain ⟨xr, xc, xl⟩ := x
  obtain ⟨yr, yc, yl⟩ := y
  unfold plaV
  simp only
  by_cases h0 : xr = yr
  case' neg =>
    have g0 : (xr != yr) = true := by rw [bne_iff_ne]; exact h0
    rw [show decide ((⟨xr, xc, xl⟩ : Pla) = ⟨yr, yc, yl⟩) = false from decide_eq_false (fun h => by injection h; contradiction)]
    clear h0
    go_enter Try.func63, Try.ntmps63
    go_wp2_with fail
    go_ret
    exact ⟨rfl, by go_grown⟩
  subst h0
  by_cases h1 : xc = yc
  case' neg =>
    have g1 : (xc != yc) = true := by rw [bne_iff_ne]; exact h1
    rw [show decide ((⟨xr, xc, xl⟩ : Pla) = ⟨xr, yc, yl⟩) = false from decide_eq_false (fun h => by injection h; contradiction)]
    clear h1
    go_enter Try.func63, Try.ntmps63
    go_wp2_with fail
    go_ret
    exact ⟨rfl, by go_grown⟩
  subst h1
  by_cases h2 : xl = yl
  case' neg =>
    have g2 : (xl != yl) = true := by rw [bne_iff_ne]; exact h2
    rw [show decide ((⟨xr, xc, xl⟩ : Pla) = ⟨xr, xc, yl⟩) = false from decide_eq_false (fun h => by injection h; contradiction)]
    clear h2
    go_enter Try.func63, Try.ntmps63
    go_wp2_with fail
    go_ret
    exact ⟨rfl, by go_grown⟩
  subst h2
  rw [show decide ((⟨xr, xc, xl⟩ : Pla) = ⟨xr, xc, xl⟩) = true from decide_eq_true rfl]
  go_enter Try.func63, Try.ntmps63
  go_wp2_with fail
  go_ret
  exact ⟨rfl, by go_grown⟩
theorem eq_takeQ {a b : List Pla} {k : Nat} (hl : a.length = b.length) (hk : a.length ≤ k) (h : ∀ j, j < k → gQ a j = gQ b j) : a = b := by
  apply List.ext_getElem hl
  intro j h1 h2
  have := h j (by omega)
  rw [gQ_eq h1, gQ_eq h2] at this
  exact this
set_option maxRecDepth 100000 in
theorem eqPlaceS (a1 a2 : Option Addr) (c1 c2 : Nat) (l1 l2 : List Pla) (w : World) (h1 : l1.length ≤ 2097152) (h2 : l2.length ≤ 2097152) (ha1 : AtQ w a1 l1) (ha2 : AtQ w a2 l2) :
    Calls Try.prog 33 #[.slice a1 l1.length c1, .slice a2 l2.length c2] w fun e w' => e = .returned (.bool (decide (l1 = l2))) ∧ Below w.heap.size w w' := by
  have HA1 := Lib.hid ha1
  have HA2 := Lib.hid ha2
  clear ha1 ha2
  by_cases hn : l1.length = l2.length
  · have g1 : (((l1.length : Nat) : Int) != (l2.length : Nat)) = false := by simp [hn]
    have HN := Lib.hid hn
    clear hn
    go_enter Try.func33, Try.ntmps33
    go_wp2_with fail
    clear g1
    go_loopw [5] (fun i wr => ∃ k : Nat, k ≤ l1.length ∧ i = .int .i64 k ∧ Hid (∀ j, j < k → gQ l1 j = gQ l2 j) ∧ Hid (Below w.heap.size w wr)) (fun i _ => l1.length - (intOf i).toNat)
    case atStart => exact ⟨0, Nat.zero_le _, rfl, Lib.hid (fun j h => by omega), Lib.hid (Below.refl _ _)⟩
    case round =>
      obtain ⟨k, hk, rfl, HE, HQ⟩ := hrel
      by_cases hlt : k < l1.length
      · have hsz := HQ.out.size
        obtain ⟨g, o, rfl, hg, hc1⟩ := HA1.out k hlt
        obtain ⟨c0, c1, c2⟩ := hc1.below HQ.out hg
        obtain ⟨g', o', rfl, hg', hc2⟩ := HA2.out k (by have := HN.out; omega)
        obtain ⟨d0, d1, d2⟩ := hc2.below HQ.out hg'
        clear hc1 hc2
        have hlt2 : k < l2.length := by have := HN.out; omega
        go_wp2_with fail
        go_still_tail 8, (by kernel_rfl)
        change wpList _ _ _ _ _ wr.drew
        go_wp2_with fail
        have hq := eqPlace (gQ l1 k) (gQ l2 k) wr.drew
        by_cases hz : gQ l1 k = gQ l2 k
        · rw [decide_eq_true hz] at hq
          have HE2 := Lib.hid (show ∀ j, j < k + 1 → gQ l1 j = gQ l2 j from fun j hj => by
            by_cases e : j = k
            · rw [e]; exact hz
            · exact HE.out j (by omega))
          clear hz
          refine hq.mono ?_
          rintro e w1 ⟨rfl, hb⟩
          have HQ2 := Lib.hid (HQ.out.drew.trans (hb.mono (by simpa using hsz)))
          clear hb hq c0 c1 c2 d0 d1 d2 hsz
          go_wp2_with fail
          go_roundw
          case rel => exact ⟨k + 1, by omega, by go_num, HE2, HQ2⟩
          case measure => simp [intOf]; omega
        · have HF := Lib.hid (show l1 ≠ l2 from fun e => hz (by rw [e]))
          rw [decide_eq_false hz] at hq
          clear hz
          refine hq.mono ?_
          rintro e w1 ⟨rfl, hb⟩
          have HQ2 := Lib.hid (HQ.out.drew.trans (hb.mono (by simpa using hsz)))
          clear hb hq c0 c1 c2 d0 d1 d2 hsz
          go_wp2_with fail
          go_ret
          exact ⟨by rw [decide_eq_false (HF.out)]; rfl, HQ2.out⟩
      · have HF := Lib.hid (show l1 = l2 from eq_takeQ HN.out (by omega) HE.out)
        go_wp2_with fail
        go_ret
        exact ⟨by rw [decide_eq_true (HF.out)]; rfl, HQ.out⟩
  · have g1 : (((l1.length : Nat) : Int) != (l2.length : Nat)) = true := by simp; omega
    have HF := Lib.hid (show l1 ≠ l2 from fun e => hn (by rw [e]))
    clear hn
    go_enter Try.func33, Try.ntmps33
    go_wp2_with fail
    go_ret
    exact ⟨by rw [decide_eq_false (HF.out)]; rfl, Below.refl _ _⟩
theorem eqPlaceSO (b1 b2 : Nat) (v1 v2 : Value) (l1 l2 : List Pla) (w : World) (h1 : l1.length ≤ 2097152) (h2 : l2.length ≤ 2097152) (o1 : OwnQ b1 w v1 l1) (o2 : OwnQ b2 w v2 l2) :
    Calls Try.prog 33 #[v1, v2] w fun e w' => e = .returned (.bool (decide (l1 = l2))) ∧ Below w.heap.size w w' := by
  obtain ⟨a1, c1, rfl, _, _, t1, _⟩ := o1.form
  obtain ⟨a2, c2, rfl, _, _, t2, _⟩ := o2.form
  exact eqPlaceS a1 a2 c1 c2 l1 l2 w h1 h2 t1 t2
/-- what marking leaves -/
def markQ (k : Int) (j : Nat) : Pla := ⟨k + 3 * (j : Int), k + 3 * (j : Int) + 1, k + 3 * (j : Int) + 1 + 1⟩
def marksQ (k : Int) (n : Nat) : List Pla := (List.range n).map (markQ k)
theorem marksQ_len (k : Int) (n : Nat) : (marksQ k n).length = n := by simp [marksQ]
theorem marksQ_get (k : Int) (n j : Nat) (h : j < n) : gQ (marksQ k n) j = markQ k j := by simp [marksQ, gQ, List.getD, h]
theorem marksQ_succ (k : Int) (j : Nat) : marksQ k (j + 1) = marksQ k j ++ [markQ k j] := by simp [marksQ, List.range_succ]
theorem marksQ_set (k : Int) (j : Nat) (l : List Pla) (h : j < l.length) : (marksQ k j ++ l.drop j).set j (markQ k j) = marksQ k (j + 1) ++ l.drop (j + 1) := by
  rw [marksQ_succ, List.drop_eq_getElem_cons h, List.set_append_right (h := by rw [marksQ_len]; exact Nat.le_refl _), marksQ_len, Nat.sub_self, List.set_cons_zero, List.append_assoc]
  rfl
set_option maxRecDepth 100000 in
set_option maxHeartbeats 4000000 in
theorem markPlaceS (base : Nat) (k : Int) (v : Value) (l : List Pla) (w : World) (hl : l.length ≤ 2097152) (hk0 : 0 ≤ k) (hk : k ≤ 1000000000) (hown : OwnQ base w v l) :
    Calls Try.prog 37 #[v, .int .i64 k] w fun e w' => e = .returned (.int .i64 (k + 3 * (l.length : Int))) ∧ OwnQ base w' v (marksQ k l.length) ∧ w.grownBy w' v.ownBlock := by
  obtain ⟨a, cap, rfl, hlc, hcm, hat, hbl⟩ := hown.form
  have HO := Lib.hid hown
  clear hown hat
  go_enter Try.func37, Try.ntmps37
  go_wp2_with fail
  go_loopw [1, 5] (fun m i wr => ∃ j : Nat, j ≤ l.length ∧ i = .int .i64 j ∧ m = .int .i64 (k + 3 * (j : Int)) ∧ OwnQ base wr (.slice a l.length cap) (marksQ k j ++ l.drop j) ∧ w.grownBy wr (Value.slice a l.length cap).ownBlock) (fun _ i _ => l.length - (intOf i).toNat)
  case atStart => exact ⟨0, Nat.zero_le _, rfl, by simp, HO.out, ⟨rfl, rfl, rfl, Nat.le_refl _, fun _ _ _ => rfl⟩⟩
  case round =>
    obtain ⟨j, hj, rfl, rfl, hown, hg⟩ := hrel
    have hlen : (marksQ k j ++ l.drop j).length = l.length := by rw [List.length_append, marksQ_len, List.length_drop]; omega
    by_cases hlt : j < l.length
    · obtain ⟨g, cap', he, _, _, hbg, hgl⟩ := hown.there (by omega)
      rw [hlen] at he
      injection he with he1 _ he3
      subst he1
      subst he3
      rw [← hlen] at hown
      obtain ⟨d0, d1, d2⟩ := hown.at j (by rw [hlen]; exact hlt)
      have f0 := hown.row.frozenAt (j * 3)
      have f1 := hown.row.frozenAt (j * 3 + 1)
      have f2 := hown.row.frozenAt (j * 3 + 2)
      have HW := Lib.hid hown
      have HL := Lib.hid hlen
      clear hown hlen
      go_wp2_with fail
      go_roundw
      case rel =>
        have q0 := HW.out.row.stored (j * 3) (.int .i64 (markQ k j).r)
        have q1 := q0.1.stored (j * 3 + 1) (.int .i64 (markQ k j).c)
        have q2 := q1.1.stored (j * 3 + 2) (.int .i64 (markQ k j).l)
        have qe := OwnQ.of q2.1 (cellsQ_set (marksQ k j ++ l.drop j) j (markQ k j) (by rw [HL.out]; exact hlt))
        rw [marksQ_set k j l hlt, HL.out] at qe
        exact ⟨j + 1, by omega, by go_num, by congr 1; omega, qe, (gtrans (gtrans (gtrans hg q0.2) q1.2) q2.2)⟩
      case measure => simp [intOf]; omega
    · obtain rfl : j = l.length := by omega
      have HW := Lib.hid hown
      have HG := Lib.hid hg
      clear hown hlen hg
      go_wp2_with fail
      go_ret
      exact ⟨rfl, by have := HW.out; rw [List.drop_length, List.append_nil] at this; exact this, HG.out⟩
end Go.Proofs.Ytpdpejlcilnafaa.kit
