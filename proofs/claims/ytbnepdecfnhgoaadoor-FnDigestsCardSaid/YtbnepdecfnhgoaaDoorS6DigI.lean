/-
  Chapter 6: impl's iterator over the digests of a log's prefixes; what impl's DigestOf and DigestList return.
-/
import Derived.RangeFuncNested
import Derived.RangeFuncBox
import Derived.RangeFuncBound
import Derived.RangeFuncCalls
import Derived.RangeFuncLeaves
import Derived.Shelf.Abstract
import Derived.Shelf.RegionOpen
import Derived.WalkKit
import Derived.OwnWalkIn
import Derived.TacticsInMore
import Derived.LoopNIn
import Derived.LoopIn
import Derived.Maps.AppendAt
import Derived.Test.YtbnepdecfnhgoaaDoorS6Dig
namespace Go.Proofs.YtbnepdecfnhgoaaDoor.kit
open Go.ChangeShapes Go.WideShapes Go.ChangeAt Go.RowKit Go.Shelf
set_option linter.unusedVariables false
attribute [local go_sem] Oper.semAt_some

/-- the first n lengths, each with its digest -/
def prs (L : List Ent) (n : Nat) : List (Int × Int) := (List.range n).map fun k : Nat => ((k : Int), dg L k)
theorem prs_succ (L : List Ent) (n : Nat) : prs L (n + 1) = prs L n ++ [((n : Int), dg L n)] := by simp [prs, List.range_succ]
theorem prs_len (L : List Ent) (n : Nat) : (prs L n).length = n := by simp [prs]
def prL (L : List Ent) : List (Int × Int) := if LOk L then prs L (L.length + 1) else []
abbrev encs (p : Int × Int) : Array Value := #[.int .i64 p.1, .int .i64 p.2]
theorem prs_pre (L : List Ent) (k n : Nat) (h : k ≤ n) : prs L k <+: prs L n := by
  obtain ⟨d, rfl⟩ := Nat.exists_eq_add_of_le h
  unfold prs
  rw [List.range_add, List.map_append]
  exact List.prefix_append _ _
def fnd (m : Int) (ps : List (Int × Int)) : Option (Int × Int) := ps.find? fun p => p.1 == m
theorem fnd_hit {m : Int} {pre : List (Int × Int)} {x : Int × Int} (h : fnd m pre = none) (hx : x.1 = m) : fnd m (pre ++ [x]) = some x := by
  unfold fnd at *; rw [List.find?_append, h]; simp [hx]
theorem fnd_miss {m : Int} {pre : List (Int × Int)} {x : Int × Int} (h : fnd m pre = none) (hx : ¬ x.1 = m) : fnd m (pre ++ [x]) = none := by
  unfold fnd at *; rw [List.find?_append, h]; simp [hx]
theorem fnd_pre {m : Int} {pre ps : List (Int × Int)} {x : Int × Int} (h : fnd m pre = some x) (hp : pre <+: ps) : fnd m ps = some x := by
  obtain ⟨t, rfl⟩ := hp
  unfold fnd at *; rw [List.find?_append, h]; rfl
theorem fnd_prs (L : List Ent) (m : Int) : ∀ n : Nat, fnd m (prs L n) = if 0 ≤ m ∧ m < (n : Int) then some (m, dg L m.toNat) else none
  | 0 => by
    rw [if_neg (by omega)]; rfl
  | n + 1 => by
    have ih := fnd_prs L m n
    rw [prs_succ]
    by_cases h : 0 ≤ m ∧ m < (n : Int)
    · rw [if_pos h] at ih
      rw [if_pos (by omega)]
      exact fnd_pre ih (List.prefix_append _ _)
    · rw [if_neg h] at ih
      by_cases e : (n : Int) = m
      · rw [fnd_hit ih e, if_pos (by omega)]
        subst e
        rfl
      · rw [fnd_miss ih e, if_neg (by omega)]
theorem digO_fnd (L : List Ent) (m : Int) : digO L m = ((fnd m (prL L)).map (·.2)).getD (-1) := by
  unfold digO prL
  by_cases h : LOk L
  · rw [if_pos h, fnd_prs]
    by_cases hm : 0 ≤ m ∧ m ≤ L.length
    · rw [if_pos ⟨h, hm.1, hm.2⟩, if_pos (by omega)]; rfl
    · rw [if_neg (fun hh => hm hh.2), if_neg (by omega)]; rfl
  · rw [if_neg (fun hh => h hh.1), if_neg h]; rfl
theorem digL_prs (L : List Ent) : digL L = (prL L).map (·.2) := by
  unfold digL prL
  by_cases h : LOk L
  · rw [if_pos h, if_pos h]; simp [dgs, prs]
  · rw [if_neg h, if_neg h]; rfl

theorem implPrefixDigests (a : Option Addr) (n c : Nat) (w : World) : Calls Tryd.prog 41 #[.slice a n c] w fun e w' => e = .returned (.func (.func 73) #[] #[.pointer (some ⟨w.heap.size, 0, none⟩)]) ∧ w' = w.alloc (.cells #[.slice a n c] 24) := by
  go_enter Tryd.func41, Tryd.ntmps41
  go_wp2_with fail
  go_ret
  exact ⟨rfl, rfl⟩
/-- what a round of the loop keeps -/
def KpD (n₀ Bn : Nat) (W W' : World) : Prop := Below n₀ W W' ∧ W'.heap[Bn]? = W.heap[Bn]?
theorem abide {β : Type} {B : Nat} {J : β → World → Prop} (hJ : AbidesFrom B J) {s : β} {W W' : World} (h : J s W) (hb : Below W.heap.size W W') : J s W' :=
  hJ s W W' none h ⟨hb.os, hb.tape, hb.output, hb.size, fun k hk _ => hb.block k hk⟩ (fun r e => by cases e)
theorem boxed_later {W W' : World} {B : Nat} {t : TypeId} {v : Value} (h : Boxed W B t v) (hb : Below W.heap.size W W') : Boxed W' B t v := (hb.block B h.lt).trans h
set_option maxRecDepth 100000 in
set_option maxHeartbeats 4000000 in
theorem iter_in (n : Nat) (hn : 1 ≤ n) (l Bn : Nat) (a : Option Addr) (c : Nat) (L : List Ent) (hl : L.length ≤ 2097152) (hcap : L.length ≤ c) (J Jx : List (Int × Int) → World → Prop)
    (w0 W : World) (ha : AtE w0 a L) (hT : Tab w0) (hW0 : Below w0.heap.size w0 W) (hJA : AbidesFrom W.heap.size J) (hJxA : AbidesFrom W.heap.size Jx)
    (hY : ∀ pre x W1, J pre W1 → pre.length < L.length + 1 → YieldAt Fence.wide (n - 1) Tryd.prog l (encs x) W1 fun e W' => (e = .returned (.bool true) ∧ J (pre ++ [x]) W' ∧ KpD w0.heap.size Bn W1 W') ∨ (e = .returned (.bool false) ∧ Jx (pre ++ [x]) W'))
    (hB : Boxed W Bn 24 (.slice a L.length c)) (h0 : J [] W) :
    CallsIn Fence.wide n Tryd.prog 73 #[.func (.yield l) #[] #[], .pointer (some ⟨Bn, 0, none⟩)] W fun e W' => (∃ v, e = .returned v) ∧ ((∃ ys, ys = prL L ∧ J ys W') ∨ (∃ pre, pre <+: prL L ∧ Jx pre W')) := by
  have C1 := Lib.hid (implIsLogA a c L W hl (ha.later hW0))
  have HA := Lib.hid ha
  have HT := Lib.hid hT
  have HY := Lib.hid hY
  have HJ := Lib.hid hJA
  have H0 := Lib.hid h0
  have HBX := Lib.hid hB
  have HW0 := Lib.hid hW0
  have hc := hB.cell
  clear ha hT hY hJA hJxA h0 hB hW0
  by_cases he : LOk L
  · have HF := Lib.hid (show prL L = prs L (L.length + 1) by unfold prL; rw [if_pos he])
    have h16 := he.2
    rw [decide_eq_true he] at C1
    clear he
    refine callsIn_of_wp Tryd.func73 rfl trivial ?_ rfl
    simp only [Tryd.ntmps73, List.size_toArray, List.length_cons, List.length_nil, Nat.reduceAdd, Nat.reduceSub, Array.replicate_succ, Array.replicate_zero, List.push_toArray, List.append_toArray, List.nil_append, List.cons_append]
    gi_wp2_with (refine ⟨trivial, ?_⟩; gi_at_call 63; refine (callsIn_wide.2 C1.out).mono ?_; rintro e w1 ⟨rfl, hb1⟩; have HB1 := Lib.hid (boxed_later HBX.out hb1); have hc1 := HB1.out.cell)
    have HJ1 := Lib.hid (abide HJ.out H0.out hb1)
    have HW1 := Lib.hid (HW0.out.trans (hb1.mono HW0.out.size))
    clear hb1 hc1 hc C1
    gi_loopw [3, 4, 10] (fun d _ i wr => ∃ k : Nat, k ≤ L.length ∧ i = .int .i64 k ∧ d = .int .i64 (dg L k) ∧ Hid (J (prs L k) wr) ∧ Hid (Below w0.heap.size w0 wr) ∧ Hid (Boxed wr Bn 24 (.slice a L.length c))) (fun _ _ i _ => L.length - (intOf i).toNat)
    case atStart => exact ⟨0, Nat.zero_le _, rfl, rfl, HJ1, HW1, HB1⟩
    case round =>
      obtain ⟨k, hk, rfl, rfl, HJr, HWr, HBr⟩ := hrel
      obtain ⟨fn, tmps, assign, body, hy, hR⟩ := HY.out (prs L k) ((k : Int), dg L k) wr HJr.out (by rw [prs_len]; omega)
      rw [← prs_succ] at hR
      dsimp only [encs] at hy
      by_cases hlt : k < L.length
      · have hd := dg_in L k
        have HD := Lib.hid (show dg L (k + 1) = (dg L k * 31 + cksum (fmtL [gE L k])) % 9973 from rfl)
        have HPRE := Lib.hid (prs_pre L (k + 1) (L.length + 1) (by omega))
        have R := fun W => run_oneE W a L.length c k (by omega)
        have J1 := fun W (h : Below w0.heap.size w0 W) => Lib.hid (implOneE a c k L W (HA.out.later h) hlt (HT.out.below h))
        have J2 := fun W => Lib.hid (implChecksumL (fmtL [gE L k]) W (by have := fmtL_len [gE L k]; omega))
        have hcs := cksum_in (fmtL [gE L k])
        generalize cksum (fmtL [gE L k]) = cs at *
        generalize fmtL [gE L k] = fl at *
        generalize dg L k = d at *
        have hw1 : IntKind.i64.wrap (31 * d) = 31 * d := IntWalk.i64_in _ (by omega)
        have hw2 : IntKind.i64.wrap (31 * d + cs) = 31 * d + cs := IntWalk.i64_in _ (by omega)
        have hw3 : (31 * d + cs).tmod 9973 = (31 * d + cs) % 9973 := Int.tmod_eq_emod_of_nonneg (by omega)
        have hw4 : IntKind.i64.wrap ((31 * d + cs) % 9973) = (31 * d + cs) % 9973 := IntWalk.i64_in _ (by have := Int.emod_nonneg (31 * d + cs) (show (9973 : Int) ≠ 0 by decide); have := Int.emod_lt_of_pos (31 * d + cs) (show (0 : Int) < 9973 by decide); omega)
        have hw5 : IntKind.i64.wrap ((k : Int) + 1) = (k : Int) + 1 := IntWalk.i64_in _ (by omega)
        have t1 : decide ((k : Int) < (L.length : Int)) = true := decide_eq_true (by omega)
        gi_wp2
        refine hR.mono ?_
        rintro e W3 (⟨rfl, hJ3, hk3⟩ | ⟨rfl, hJx3⟩)
        · have HW3 := Lib.hid (HWr.out.trans hk3.1)
          have HB3 := Lib.hid (show Boxed W3 Bn 24 (.slice a L.length c) from hk3.2.trans HBr.out)
          have HJ3 := Lib.hid hJ3
          have hc3 := HB3.out.cell
          clear hJ3 hk3
          gi_wp2_with (first
            | (refine ⟨trivial, ?_⟩; gi_at_call 31; refine (callsIn_wide.2 (J1 _ HW3.out).out).mono ?_; rintro e w4 ⟨rfl, hb4⟩)
            | (refine ⟨trivial, ?_⟩; gi_at_call 74; refine (callsIn_wide.2 (J2 _).out).mono ?_; rintro e w5 ⟨rfl, hb5⟩))
          go_roundw
          case rel => exact ⟨k + 1, by omega, by go_num, by rw [HD.out, Int.mul_comm], Lib.hid (abide HJ.out HJ3.out (hb4.trans (hb5.mono hb4.size))), Lib.hid (HW3.out.trans ((hb4.trans (hb5.mono hb4.size)).mono HW3.out.size)), Lib.hid (boxed_later HB3.out (hb4.trans (hb5.mono hb4.size)))⟩
          case measure => simp [intOf]; omega
        · gi_wp2
          refine bodyPost_ret (results_none rfl _ _ _) rfl ?_
          exact ⟨⟨_, rfl⟩, .inr ⟨_, by rw [HF.out]; exact HPRE.out, hJx3⟩⟩
      · obtain rfl : k = L.length := by omega
        have hc3 := HBr.out.cell
        clear hlt hk
        gi_wp2
        refine hR.mono ?_
        rintro e W3 (⟨rfl, hJ3, hk3⟩ | ⟨rfl, hJx3⟩)
        · gi_wp2
          go_end0
          exact ⟨⟨_, rfl⟩, .inl ⟨_, by rw [HF.out], hJ3⟩⟩
        · gi_wp2
          go_end0
          exact ⟨⟨_, rfl⟩, .inr ⟨_, by rw [HF.out]; exact List.prefix_refl _, hJx3⟩⟩
  · have HF := Lib.hid (show prL L = [] by unfold prL; rw [if_neg he])
    rw [decide_eq_false he] at C1
    clear he
    refine callsIn_of_wp Tryd.func73 rfl trivial ?_ rfl
    simp only [Tryd.ntmps73, List.size_toArray, List.length_cons, List.length_nil, Nat.reduceAdd, Nat.reduceSub, Array.replicate_succ, Array.replicate_zero, List.push_toArray, List.append_toArray, List.nil_append, List.cons_append]
    gi_wp2_with (refine ⟨trivial, ?_⟩; gi_at_call 63; refine (callsIn_wide.2 C1.out).mono ?_; rintro e w1 ⟨rfl, hb1⟩)
    refine bodyPost_ret (results_none rfl _ _ _) rfl ?_
    exact ⟨⟨_, rfl⟩, .inl ⟨_, by rw [HF.out], abide HJ.out H0.out hb1⟩⟩
end Go.Proofs.YtbnepdecfnhgoaaDoor.kit
