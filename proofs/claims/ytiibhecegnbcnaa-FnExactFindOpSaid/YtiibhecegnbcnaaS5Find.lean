/-
  Chapter 5: what spec's and impl's FindOp return.
-/
import Derived.Test.YtiibhecegnbcnaaS5Plain
import Derived.BigQuiet
namespace Go.Proofs.Ytiibhecegnbcnaa.kit
open Go.ChangeShapes Go.WideShapes Go.ChangeAt Go.RowKit
set_option linter.unusedVariables false

set_option maxRecDepth 100000 in
set_option maxHeartbeats 4000000 in
theorem specFindOpA (a : Option Addr) (cp : Nat) (L : List Ent) (c s : Int) (w : World) (hl : L.length ≤ 2097152) (ha : AtE w a L) :
    Calls Try.prog 51 #[.slice a L.length cp, .int .i64 c, .int .i64 s] w fun e w' => e = .returned (.int .i64 (findE L c s)) ∧ w = w' := by
  have HA := Lib.hid ha
  clear ha
  go_enter Try.func51, Try.ntmps51
  go_wp2_with fail
  go_loop [7] (fun i => ∃ k : Nat, k ≤ L.length ∧ i = .int .i64 k ∧ Hid (∀ j, j < k → isIt c s (gE L j) = false)) (fun i => L.length - (intOf i).toNat)
  case atStart => exact ⟨0, Nat.zero_le _, rfl, Lib.hid (fun j h => by omega)⟩
  case round =>
    obtain ⟨k, hk, rfl, HE⟩ := hrel
    by_cases hlt : k < L.length
    · obtain ⟨g, o, rfl, hg, hc⟩ := HA.out k hlt
      obtain ⟨c0, c1, c2, c3, c4, c5, c6⟩ := hc
      have hit := fun h => findE_hit (c := c) (s := s) hlt HE.out h
      have hno : isIt c s (gE L k) = false → ∀ j, j < k + 1 → isIt c s (gE L j) = false := fun h j hj => by
        by_cases e : j = k
        · rw [e]; exact h
        · exact HE.out j (by omega)
      unfold isIt at hit
      have hno' : ((gE L k).c == c && (gE L k).s == s) = false → ∀ j, j < k + 1 → isIt c s (gE L j) = false := hno
      clear hno
      generalize (gE L k).c = yc at *
      generalize (gE L k).s = ys at *
      cases h1 : (yc == c) with
      | false =>
        have HE2 := Lib.hid (hno' (by rw [h1]; rfl))
        clear hit hno'
        go_wp2_with fail
        go_round
        case rel => exact ⟨k + 1, by omega, by go_num, HE2⟩
        case measure => simp [intOf]; omega
      | true =>
        cases h2 : (ys == s) with
        | false =>
          have HE2 := Lib.hid (hno' (by rw [h1, h2]; rfl))
          clear hit hno'
          go_wp2_with fail
          go_round
          case rel => exact ⟨k + 1, by omega, by go_num, HE2⟩
          case measure => simp [intOf]; omega
        | true =>
          have HF := Lib.hid (hit (by rw [h1, h2]; rfl))
          clear hit hno'
          go_wp2_with fail
          go_ret
          exact ⟨by rw [HF.out]; rfl, rfl⟩
    · obtain rfl : k = L.length := by omega
      have HF := Lib.hid (findE_none HE.out)
      go_wp2_with fail
      go_ret
      exact ⟨by rw [HF.out]; rfl, rfl⟩
set_option maxRecDepth 100000 in
set_option maxHeartbeats 4000000 in
theorem findClosure (x : Ent) (p q : Nat) (c s : Int) (w : World) (hp : w.cell? ⟨p, 0, none⟩ = some (.int .i64 c)) (hq : w.cell? ⟨q, 0, none⟩ = some (.int .i64 s)) :
    Calls Try.prog 93 #[entV x, .pointer (some ⟨p, 0, none⟩), .pointer (some ⟨q, 0, none⟩)] w fun e w' => e = .returned (.bool (isIt c s x)) ∧ Below w.heap.size w w' := by
  obtain ⟨xe, xc, xs, xk, xo, xd, xv⟩ := x
  unfold entV isIt
  simp only
  have np : p ≠ w.heap.size := Nat.ne_of_lt (World.block_lt_of_cell? w _ hp)
  have nq : q ≠ w.heap.size := Nat.ne_of_lt (World.block_lt_of_cell? w _ hq)
  replace hp := fun o : Obj => (World.cell?_alloc_old w o ⟨p, 0, none⟩ np).trans hp
  replace hq := fun o : Obj => (World.cell?_alloc_old w o ⟨q, 0, none⟩ nq).trans hq
  clear np nq
  cases h1 : (xc == c) with
  | false =>
    go_enter Try.func93, Try.ntmps93
    go_wp2_with fail
    go_ret
    exact ⟨rfl, by go_grown⟩
  | true =>
    cases h2 : (xs == s) with
    | false =>
      go_enter Try.func93, Try.ntmps93
      go_wp2_with fail
      go_ret
      exact ⟨rfl, by go_grown⟩
    | true =>
      go_enter Try.func93, Try.ntmps93
      go_wp2_with fail
      go_ret
      exact ⟨rfl, by go_grown⟩
set_option maxRecDepth 100000 in
set_option maxHeartbeats 4000000 in
theorem indexFuncE (a : Option Addr) (cp : Nat) (L : List Ent) (p q : Nat) (c s : Int) (w : World) (hl : L.length ≤ 2097152) (ha : AtE w a L) (hp : w.cell? ⟨p, 0, none⟩ = some (.int .i64 c)) (hq : w.cell? ⟨q, 0, none⟩ = some (.int .i64 s)) :
    Calls Try.prog 92 #[.slice a L.length cp, .func (Fn.func 93) #[] #[.pointer (some ⟨p, 0, none⟩), .pointer (some ⟨q, 0, none⟩)]] w
      fun e w' => e = .returned (.int .i64 (findE L c s)) ∧ Below w.heap.size w w' := by
  have HA := Lib.hid ha
  have HP := Lib.hid hp
  have HQ0 := Lib.hid hq
  have lp := Lib.hid (World.block_lt_of_cell? w _ hp)
  have lq := Lib.hid (World.block_lt_of_cell? w _ hq)
  clear ha hp hq
  go_enter Try.func92, Try.ntmps92
  go_wp2_with fail
  go_loopw [8] (fun i wr => ∃ k : Nat, k ≤ L.length ∧ i = .int .i64 k ∧ Hid (∀ j, j < k → isIt c s (gE L j) = false) ∧ Hid (Below w.heap.size w wr)) (fun i _ => L.length - (intOf i).toNat)
  case atStart => exact ⟨0, Nat.zero_le _, rfl, Lib.hid (fun j h => by omega), Lib.hid (Below.refl _ _)⟩
  case round =>
    obtain ⟨k, hk, rfl, HE, HQ⟩ := hrel
    by_cases hlt : k < L.length
    · obtain ⟨g, o, rfl, hg, hc⟩ := HA.out k hlt
      obtain ⟨c0, c1, c2, c3, c4, c5, c6⟩ := hc.below HQ.out hg
      have jc := Lib.hid (findClosure (gE L k) p q c s wr ((HQ.out.cell (p := ⟨p, 0, none⟩) lp.out).trans HP.out) ((HQ.out.cell (p := ⟨q, 0, none⟩) lq.out).trans HQ0.out))
      clear hc
      cases hi : isIt c s (gE L k) with
      | false =>
        have HE2 := Lib.hid (show ∀ j, j < k + 1 → isIt c s (gE L j) = false from fun j hj => by
          by_cases e : j = k
          · rw [e]; exact hi
          · exact HE.out j (by omega))
        rw [hi] at jc
        clear hi
        go_wp2_with fail
        refine jc.out.mono ?_
        rintro e w1 ⟨rfl, hb⟩
        have HZ := Lib.hid (HQ.out.trans (hb.mono HQ.out.size))
        clear hb jc c0 c1 c2 c3 c4 c5 c6
        go_wp2_with fail
        go_roundw
        case rel => exact ⟨k + 1, by omega, by go_num, HE2, HZ⟩
        case measure => simp [intOf]; omega
      | true =>
        have HF := Lib.hid (findE_hit hlt HE.out hi)
        rw [hi] at jc
        clear hi
        go_wp2_with fail
        refine jc.out.mono ?_
        rintro e w1 ⟨rfl, hb⟩
        have HZ := Lib.hid (HQ.out.trans (hb.mono HQ.out.size))
        clear hb jc c0 c1 c2 c3 c4 c5 c6
        go_wp2_with fail
        go_ret
        exact ⟨by rw [HF.out]; rfl, HZ.out⟩
    · obtain rfl : k = L.length := by omega
      have HF := Lib.hid (findE_none HE.out)
      go_wp2_with fail
      go_ret
      exact ⟨by rw [HF.out]; rfl, HQ.out⟩
set_option maxRecDepth 100000 in
theorem implFindOpA (a : Option Addr) (cp : Nat) (L : List Ent) (c s : Int) (w : World) (hl : L.length ≤ 2097152) (ha : AtE w a L) :
    Calls Try.prog 52 #[.slice a L.length cp, .int .i64 c, .int .i64 s] w fun e w' => e = .returned (.int .i64 (findE L c s)) ∧ Below w.heap.size w w' := by
  have hb : Below w.heap.size w ((w.alloc (.cells #[.int .i64 c] 3)).alloc (.cells #[.int .i64 s] 3)) := ((Below.refl _ _).alloc (Nat.le_refl _) _).alloc (by simp) _
  have J := Lib.hid (indexFuncE a cp L w.heap.size (w.heap.size + 1) c s _ hl (ha.later hb) (by go_simp) (by go_simp))
  have HB := Lib.hid hb
  clear ha hb
  go_enter Try.func52, Try.ntmps52
  go_wp2_with fail
  refine J.out.mono ?_
  rintro e w1 ⟨rfl, hb⟩
  have HZ := Lib.hid (HB.out.trans (hb.mono HB.out.size))
  clear hb
  go_wp2_with fail
  go_ret
  exact ⟨rfl, HZ.out⟩
theorem specFindOp (b : Nat) (v : Value) (L : List Ent) (c s : Int) (w : World) (hl : L.length ≤ 2097152) (o : OwnE b w v L) :
    Calls Try.prog 51 #[v, .int .i64 c, .int .i64 s] w fun e w' => e = .returned (.int .i64 (findE L c s)) ∧ Below w.heap.size w w' := by
  obtain ⟨a, cp, rfl, _, _, t, _⟩ := o.form
  exact (specFindOpA a cp L c s w hl t).mono fun _ _ ⟨h, d⟩ => ⟨h, by rw [← d]; exact Below.refl _ _⟩
theorem implFindOp (b : Nat) (v : Value) (L : List Ent) (c s : Int) (w : World) (hl : L.length ≤ 2097152) (o : OwnE b w v L) :
    Calls Try.prog 52 #[v, .int .i64 c, .int .i64 s] w fun e w' => e = .returned (.int .i64 (findE L c s)) ∧ Below w.heap.size w w' := by
  obtain ⟨a, cp, rfl, _, _, t, _⟩ := o.form
  exact implFindOpA a cp L c s w hl t
end Go.Proofs.Ytiibhecegnbcnaa.kit
