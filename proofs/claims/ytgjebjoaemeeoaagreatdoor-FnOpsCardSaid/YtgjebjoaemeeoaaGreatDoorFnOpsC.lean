/-
  Reading back operations, sessions, logs (merged text).
-/
import Derived.Test.YtgjebjoaemeeoaaGreatDoorS5Log
import Derived.Test.YtgjebjoaemeeoaaGreatDoorS3Fmt
import Derived.Test.YtgjebjoaemeeoaaGreatDoorShelf
import Derived.Lib.Join
import Derived.Test.YtgjebjoaemeeoaaGreatDoorS3Math
import Derived.Test.YtgjebjoaemeeoaaGreatDoorKit
import Derived.Lib.Builder
import Derived.Lib.AppendStr
import Derived.Lib.UnsafeStr
import Derived.Lib.Strings
import Derived.Handy
import Derived.OwnWalk
import Derived.Test.YtgjebjoaemeeoaaGreatDoorS4Read
import Derived.Test.YtgjebjoaemeeoaaGreatDoorC1Int
import Derived.Test.YtgjebjoaemeeoaaGreatDoorKept
import Derived.Lib.AppendIntMem
import Derived.Deep.RegionHeld3
import Derived.Test.YtgjebjoaemeeoaaGreatDoorCuts
import Derived.Lib.IndexAny
import Derived.Test.YtgjebjoaemeeoaaGreatDoorS3ParseOp
import Derived.Test.YtgjebjoaemeeoaaGreatDoorS3Cut
import Derived.Test.YtgjebjoaemeeoaaGreatDoorFnOpsB
import Derived.Test.YtgjebjoaemeeoaaGreatDoorMxCell
import Derived.Test.YtgjebjoaemeeoaaGreatDoorBoxC
import Derived.Test.YtgjebjoaemeeoaaGreatDoorC1Fixed
import Derived.Deep.DeepCutAuto
import Derived.Deep.RegionWith
import Derived.StillTailTactics
import Derived.Lib.OthersKept
import Derived.WalkSmall
import Derived.Test.YtgjebjoaemeeoaaGreatDoorParseInts
namespace Go.Proofs.YtgjebjoaemeeoaaGreatDoor.kit
open Go.ChangeShapes Go.WideShapes Go.ChangeAt Go.RowKit
set_option linter.unusedVariables false

def fmtE (x : Ent) : List UInt8 := Lib.itoa x.e ++ [58] ++ fmtO x.c x.s x.k x.o x.d x.v
/-- the first k entries, with ';' between them -/
def joinTo (L : List Ent) : Nat → List UInt8
  | 0 => []
  | k + 1 => joinTo L k ++ (if 0 < k then [59] else []) ++ fmtE (gE L k)
def wordNone : List UInt8 := [110, 111, 110, 101]
def fmtL (L : List Ent) : List UInt8 := if LOk L then (if L.length = 0 then wordNone else joinTo L L.length) else []
theorem fmtO_len (c s k o d v : Int) : (fmtO c s k o d v).length ≤ 200 := by
  unfold fmtO
  by_cases h : okOp c s k o d v = true
  · obtain ⟨h1, h2, h3, h4, h5⟩ := okOp_kind h
    have hd : 0 ≤ d ∧ d ≤ 9 := by rcases h5 with ⟨_, rfl⟩ | ⟨_, h6⟩ <;> omega
    have lc := itoa_le c (by omega) (by omega)
    have ls := itoa_le s (by omega) (by omega)
    have lo := itoa_le o (by omega) (by omega)
    have lv := itoa_le v (by omega) (by omega)
    have ld := itoa_le d (by omega) (by omega)
    rw [if_pos h]
    unfold fmtA
    split <;> simp [wordWrite, wordSwap] <;> omega
  · rw [if_neg h]; simp
theorem okE_in {n : Int} (h : okE n = true) : 1 ≤ n ∧ n ≤ 20 := of_decide_eq_true h
theorem entOk_e {x : Ent} (h : entOk x = true) : 1 ≤ x.e ∧ x.e ≤ 20 := by
  unfold entOk at h
  simp only [Bool.and_eq_true] at h
  exact okE_in h.1
theorem fmtE_len {x : Ent} (h : 1 ≤ x.e ∧ x.e ≤ 20) : (fmtE x).length ≤ 230 := by
  have l1 := itoa_le x.e (by omega) (by omega)
  have l2 := fmtO_len x.c x.s x.k x.o x.d x.v
  unfold fmtE
  simp; omega
theorem joinTo_len {L : List Ent} (h : LOk L) : ∀ k, k ≤ L.length → (joinTo L k).length ≤ 250 * k
  | 0, _ => by simp [joinTo]
  | k + 1, hk => by
    have := joinTo_len h k (by omega)
    have l := fmtE_len (entOk_e (h.1 k (by omega)).1)
    unfold joinTo
    simp only [List.length_append]
    split <;> simp <;> omega
theorem joinTo_join (L : List Ent) : Lib.join (L.map fmtE) [59] = joinTo L L.length := by
  cases L with
  | nil => rfl
  | cons x r =>
    rw [List.map_cons, Lib.join_cons]
    have h : ∀ k, k ≤ r.length → fmtE x ++ Lib.joinTail [59] ((r.map fmtE).take k) = joinTo (x :: r) (k + 1) := by
      intro k
      induction k with
      | zero => intro _; simp [joinTo, Lib.joinTail, gE]
      | succ k ih =>
        intro hk
        have hy : (r.map fmtE)[k]? = some (fmtE (gE (x :: r) (k + 1))) := by
          rw [List.getElem?_map, List.getElem?_eq_getElem (by omega)]
          simp [gE, List.getD, List.getElem?_eq_getElem (show k < r.length by omega)]
        rw [Lib.joinTail_take_succ _ _ _ _ hy]
        have e := ih (by omega)
        rw [show joinTo (x :: r) (k + 1 + 1) = joinTo (x :: r) (k + 1) ++ (if 0 < k + 1 then [59] else []) ++ fmtE (gE (x :: r) (k + 1)) from rfl, ← e, if_pos (by omega)]
        simp [List.append_assoc]
    have := h r.length (Nat.le_refl _)
    rw [List.take_of_length_le (by simp)] at this
    exact this
set_option maxRecDepth 100000 in
set_option maxHeartbeats 4000000 in
theorem specFormatLogA (a : Option Addr) (c : Nat) (L : List Ent) (w : World) (hl : L.length ≤ 2097152) (ha : AtE w a L) :
    Calls Tryz.prog 22 #[.slice a L.length c] w fun e w' => e = .returned (str (fmtL L)) ∧ Below w.heap.size w w' := by
  have C1 := Lib.hid (specIsLogA a c L w hl ha)
  have HA := Lib.hid ha
  clear ha
  by_cases he : LOk L
  · have hO : decide (LOk L) = true := decide_eq_true he
    rw [hO] at C1
    by_cases h0 : L.length = 0
    · have HF := Lib.hid (show fmtL L = wordNone by unfold fmtL; rw [if_pos he, if_pos h0])
      obtain rfl : L = [] := List.eq_nil_of_length_eq_zero h0
      clear he hO h0
      go_enter Tryz.func22, Tryz.ntmps22
      go_wp2_with (go_at_call 18; refine (C1.out).mono ?_; rintro e w1 ⟨rfl, hb1⟩)
      go_ret
      exact ⟨by rw [HF.out]; rfl, hb1⟩
    · have HF := Lib.hid (show fmtL L = joinTo L L.length by unfold fmtL; rw [if_pos he, if_neg h0])
      have g0 : ((L.length : Int) == 0) = false := by rw [beq_eq_false_iff_ne]; omega
      have HO := Lib.hid he
      have h16 := he.2
      clear he hO
      go_enter Tryz.func22, Tryz.ntmps22
      go_wp2_with (go_at_call 18; refine (C1.out).mono ?_; rintro e w1 ⟨rfl, hb1⟩)
      have HB1 := Lib.hid hb1
      clear hb1 g0
      go_loopw [3, 4] (fun s i wr => ∃ k : Nat, k ≤ L.length ∧ i = .int .i64 k ∧ s = str (joinTo L k) ∧ Hid (Below w.heap.size w wr)) (fun _ i _ => L.length - (intOf i).toNat)
      case atStart => exact ⟨0, Nat.zero_le _, rfl, rfl, HB1⟩
      case round =>
        obtain ⟨k, hk, rfl, rfl, HQ⟩ := hrel
        by_cases hlt : k < L.length
        · obtain ⟨g, o, rfl, hg, hc⟩ := HA.out k hlt
          obtain ⟨c0, c1, c2, c3, c4, c5, c6⟩ := hc.below HQ.out hg
          have hv := (HO.out.1 k hlt).1
          have he := entOk_e hv
          have HT := Lib.hid (show joinTo L (k + 1) = joinTo L k ++ (if 0 < k then [59] else []) ++ fmtE (gE L k) from rfl)
          have hS := joinTo_len HO.out k (by omega)
          have hfo := fmtO_len (gE L k).c (gE L k).s (gE L k).k (gE L k).o (gE L k).d (gE L k).v
          unfold fmtE at HT
          clear hv
          generalize joinTo L k = S at *
          obtain ⟨xe, xc, xs, xk, xo, xd, xv, hx⟩ : ∃ xe xc xs xk xo xd xv, gE L k = ⟨xe, xc, xs, xk, xo, xd, xv⟩ := ⟨_, _, _, _, _, _, _, rfl⟩
          rw [hx] at c0 c1 c2 c3 c4 c5 c6 he HT hfo
          simp only at c0 c1 c2 c3 c4 c5 c6 he HT hfo
          clear hx hc
          have hgr : g < wr.heap.size := Nat.lt_of_lt_of_le hg HQ.out.size
          have q0 := LaterOf.cell (a := ⟨g, o + k * 7, none⟩) hgr c0
          have q1 := LaterOf.cell (a := ⟨g, o + k * 7 + 1, none⟩) hgr c1
          have q2 := LaterOf.cell (a := ⟨g, o + k * 7 + 2, none⟩) hgr c2
          have q3 := LaterOf.cell (a := ⟨g, o + k * 7 + 3, none⟩) hgr c3
          have q4 := LaterOf.cell (a := ⟨g, o + k * 7 + 4, none⟩) hgr c4
          have q5 := LaterOf.cell (a := ⟨g, o + k * 7 + 5, none⟩) hgr c5
          have q6 := LaterOf.cell (a := ⟨g, o + k * 7 + 6, none⟩) hgr c6
          clear c0 c1 c2 c3 c4 c5 c6
          have hle := itoa_le xe (by omega) (by omega)
          have j1 := fun W => specFormatInt xe W (by omega) (by omega)
          have j2 := fun W => specFormatOp xc xs xk xo xd xv W
          unfold opV at j2
          have J1 : ∀ W, Hid _ := fun W => Lib.hid (j1 W)
          have J2 : ∀ W, Hid _ := fun W => Lib.hid (j2 W)
          clear j1 j2 he
          generalize fmtO xc xs xk xo xd xv = fo at *
          generalize Lib.itoa xe = fe at *
          have k3 : (0 : Int) ≤ (k : Int) := by omega
          have k5 : (k : Int) < (L.length : Int) := by omega
          by_cases h0 : 0 < k
          · rw [if_pos h0] at HT
            have i1 : decide ((0 : Int) < (k : Int)) = true := by simp; omega
            have e0 : ¬ (9223372036854775807 < S.length + 1) := by omega
            have e1 : ¬ (9223372036854775807 < S.length + 1 + fe.length) := by omega
            have e2 : ¬ (9223372036854775807 < S.length + 1 + fe.length + 1) := by omega
            have e3 : ¬ (9223372036854775807 < S.length + 1 + fe.length + 1 + fo.length) := by omega
            go_wp2_with fail
            refine wp_region_later (by kernel_rfl) (by kernel_rfl) ?_
            repeat (go_big_quiet_step (first | (with_reducible exact Calls.later_of (J1 _).out) | (with_reducible exact Calls.later_of (J2 _).out)))
            refine wpQuiet_nil ?_
            intro _ hw'
            obtain ⟨⟨wz, hwz⟩, hw''⟩ := hw'
            subst hw''
            have HZ := Lib.hid (HQ.out.trans (hwz.mono HQ.out.size))
            clear hwz
            go_wp2_with fail
            go_roundw
            case rel => exact ⟨k + 1, by omega, by go_num, by rw [HT.out]; exact congrArg Value.string (by apply ByteArray.ext; apply Array.ext'; simp), HZ⟩
            case measure => simp [intOf]; omega
          · rw [if_neg h0] at HT
            have i1 : decide ((0 : Int) < (k : Int)) = false := by simp; omega
            have e1 : ¬ (9223372036854775807 < S.length + fe.length) := by omega
            have e2 : ¬ (9223372036854775807 < S.length + fe.length + 1) := by omega
            have e3 : ¬ (9223372036854775807 < S.length + fe.length + 1 + fo.length) := by omega
            go_wp2_with fail
            refine wp_region_later (by kernel_rfl) (by kernel_rfl) ?_
            repeat (go_big_quiet_step (first | (with_reducible exact Calls.later_of (J1 _).out) | (with_reducible exact Calls.later_of (J2 _).out)))
            refine wpQuiet_nil ?_
            intro _ hw'
            obtain ⟨⟨wz, hwz⟩, hw''⟩ := hw'
            subst hw''
            have HZ := Lib.hid (HQ.out.trans (hwz.mono HQ.out.size))
            clear hwz
            go_wp2_with fail
            go_roundw
            case rel => exact ⟨k + 1, by omega, by go_num, by rw [HT.out]; exact congrArg Value.string (by apply ByteArray.ext; apply Array.ext'; simp), HZ⟩
            case measure => simp [intOf]; omega
        · obtain rfl : k = L.length := by omega
          clear hlt hk
          go_wp2_with fail
          go_ret
          exact ⟨by rw [HF.out]; rfl, HQ.out⟩
  · have HF := Lib.hid (show fmtL L = [] by unfold fmtL; rw [if_neg he])
    rw [decide_eq_false he] at C1
    clear he
    go_enter Tryz.func22, Tryz.ntmps22
    go_wp2_with (go_at_call 18; refine (C1.out).mono ?_; rintro e w1 ⟨rfl, hb1⟩)
    go_ret
    exact ⟨by rw [HF.out]; rfl, hb1⟩
theorem specFormatLog (b : Nat) (v : Value) (L : List Ent) (w : World) (h : L.length ≤ 2097152) (o : OwnE b w v L) :
    Calls Tryz.prog 22 #[v] w fun e w' => e = .returned (.string ⟨(fmtL L).toArray⟩) ∧ Below w.heap.size w w' := by
  obtain ⟨a, c, rfl, _, _, at1, _⟩ := o.form
  exact specFormatLogA a c L w h at1
theorem infoT : (Tryz.prog.info? 9).map (fun i => (i.zero, i.size, i.bytes)) = some (some (.string ⟨#[]⟩), 1, 16) := by kernel_rfl
def OwnT (base : Nat) (w : World) (v : Value) (l : List ByteArray) : Prop := w.ownsRow base 9 1 v l.length (l.map Value.string)
theorem OwnT.row {base : Nat} {w : World} {v : Value} {l : List ByteArray} (h : OwnT base w v l) : w.ownsRow base 9 1 v l.length (l.map Value.string) := h
theorem OwnT.later {base : Nat} {w w' : World} {v : Value} {l : List ByteArray} (h : OwnT base w v l) (hb : Below w.heap.size w w') : OwnT base w' v l :=
  h.row.kept (row := none) ⟨hb.os, hb.tape, hb.output, hb.size, fun k hk _ => hb.block k hk⟩ (by cases hv : v.ownBlock <;> simp)
theorem OwnT.apart {base : Nat} {w : World} {v : Value} {l : List ByteArray} (h : OwnT base w v l) : ∀ j, v.ownBlock = some j → base ≤ j ∧ j ≠ w.heap.size := fun j hj => ⟨(h.row.lt j hj).1, by have := (h.row.lt j hj).2; omega⟩
theorem OwnT.there {base : Nat} {w : World} {v : Value} {l : List ByteArray} (h : OwnT base w v l) (h0 : 0 < l.length) : ∃ g cap, v = .slice (some ⟨g, 0, none⟩) l.length cap ∧ l.length ≤ cap ∧ g < w.heap.size ∧ ∀ (j : Nat) x, l[j]? = some x → w.cell? ⟨g, 0 + j, none⟩ = some (.string x) := by
  rcases h.2 with ⟨rfl, h1⟩ | ⟨g, c, cur, rfl, hg, hh, hn, hm, _⟩
  · omega
  · refine ⟨g, c, rfl, hn, (Array.getElem?_eq_some_iff.1 hh).1, fun j x hx => ?_⟩
    have hj := (List.getElem?_eq_some_iff.1 hx).1
    have := h.row.cellAt j (by omega)
    rw [Nat.zero_add, this, List.getElem?_map, hx]
    rfl
theorem news_lit (w : World) (X : Value) (t : TypeId) : ∀ (j : Nat) (u : Value), [X][j]? = some u → (w.alloc (.cells #[X] t)).cell? ((⟨w.heap.size, 0, none⟩ : Addr).add j) = some u := by
  intro j u hu
  have hj : j = 0 := by have := (List.getElem?_eq_some_iff.1 hu).1; simpa using this
  subst hj
  have hadd : (⟨w.heap.size, 0, none⟩ : Addr).add 0 = ⟨w.heap.size, 0, none⟩ := by unfold Addr.add; split <;> simp_all
  rw [hadd, World.cell?_alloc_at _ _ _ _ rfl]
  simpa using hu
theorem step_appT {w : World} {ops : Array Oper} {o : Oper} {a : Act} {K : Act → World → Prop} {Q : Exit → Act → World → Prop} {E : Prop} (hgd : o.guard = none) (s x : Operand)
    (ho : o.op = .call { callee := .builtin .append, args := #[s, x], argTypes := #[65, 65] })
    (base : Nat) (v : Value) (l : List ByteArray) (hs : a.eval s = v) (hown : OwnT base w v l) (y : ByteArray) (hx : a.eval x = .slice (some ⟨w.heap.size, 0, none⟩) 1 1) (hlen : l.length ≤ 100000) (hbase : base ≤ w.heap.size)
    (h : ∀ v' w', OwnT base w' v' (l ++ [y]) → (w.alloc (.cells #[.string y] 9)).grownBy w' v.ownBlock → K (a.put o.dst v') w') :
    if Region.wanted o (yielded ops a.tmps) = true then Oper.wp Tryz.prog o a (w.alloc (.cells #[.string y] 9)) K Q else E := by
  obtain ⟨i0, hi, hz0, hz1, hz2⟩ := info_parts infoT
  refine step_append_lies _ hgd s x 65 ho base 9 i0 (.string ⟨#[]⟩) 1 16 Tryz.underlying65 hi hz0 hz1 hz2 rfl (by decide) v l.length _ hs (hown.later ((Below.refl w.heap.size w).alloc (Nat.le_refl _) _)).row ⟨w.heap.size, 0, none⟩ 1 1 [.string y] hx rfl (news_lit w _ _) ?_ (by decide) (by unfold maxLen; omega) (by omega) (by simp; omega) _ rfl ?_
  · intro u hu
    simp only [List.mem_singleton] at hu
    subst hu
    rfl
  · intro g cap w' h1 h2 _ _
    refine h _ w' ?_ h2
    unfold OwnT
    rw [List.length_append, List.map_append]
    exact h1
theorem size_upT (w : World) (o : Obj) : w.heap.size ≤ (w.alloc o).heap.size := by simp
theorem cat3 (x y z : List UInt8) : (⟨x.toArray⟩ ++ ⟨y.toArray⟩ ++ ⟨z.toArray⟩ : ByteArray) = ⟨(x ++ y ++ z).toArray⟩ := by apply ByteArray.ext; apply Array.ext'; simp
def strE (L : List Ent) (k : Nat) : List ByteArray := (L.take k).map fun x => (⟨(fmtE x).toArray⟩ : ByteArray)
theorem strE_snoc (L : List Ent) (k : Nat) (h : k < L.length) : strE L (k + 1) = strE L k ++ [⟨(fmtE (gE L k)).toArray⟩] := by unfold strE; rw [take_snocE L k h, List.map_append]; rfl
theorem strE_len (L : List Ent) (k : Nat) (h : k ≤ L.length) : (strE L k).length = k := by unfold strE; rw [List.length_map, List.length_take]; omega
theorem k8_below {B E N : Nat} {x0 x1 x2 x3 x4 x5 x6 : Value} {w W W' : World} (h : Below B w W ∧ W.cell? ⟨E, 0, none⟩ = some x0 ∧ W.cell? ⟨E, 1, none⟩ = some x1 ∧ W.cell? ⟨E, 2, none⟩ = some x2 ∧ W.cell? ⟨E, 3, none⟩ = some x3 ∧ W.cell? ⟨E, 4, none⟩ = some x4 ∧ W.cell? ⟨E, 5, none⟩ = some x5 ∧ W.cell? ⟨E, 6, none⟩ = some x6) (hb : Below N W W') (hE : Hid (E < N)) (hB : Hid (B ≤ N)) : Below B w W' ∧ W'.cell? ⟨E, 0, none⟩ = some x0 ∧ W'.cell? ⟨E, 1, none⟩ = some x1 ∧ W'.cell? ⟨E, 2, none⟩ = some x2 ∧ W'.cell? ⟨E, 3, none⟩ = some x3 ∧ W'.cell? ⟨E, 4, none⟩ = some x4 ∧ W'.cell? ⟨E, 5, none⟩ = some x5 ∧ W'.cell? ⟨E, 6, none⟩ = some x6 := by
  obtain ⟨h7, h0, h1, h2, h3, h4, h5, h6⟩ := h
  have hn := hE.out
  exact ⟨h7.trans (hb.mono hB.out), (hb.cell (p := ⟨E, 0, none⟩) hn).trans h0, (hb.cell (p := ⟨E, 1, none⟩) hn).trans h1, (hb.cell (p := ⟨E, 2, none⟩) hn).trans h2, (hb.cell (p := ⟨E, 3, none⟩) hn).trans h3, (hb.cell (p := ⟨E, 4, none⟩) hn).trans h4, (hb.cell (p := ⟨E, 5, none⟩) hn).trans h5, (hb.cell (p := ⟨E, 6, none⟩) hn).trans h6⟩
theorem k8_drew {B E : Nat} {x0 x1 x2 x3 x4 x5 x6 : Value} {w W : World} (h : Below B w W ∧ W.cell? ⟨E, 0, none⟩ = some x0 ∧ W.cell? ⟨E, 1, none⟩ = some x1 ∧ W.cell? ⟨E, 2, none⟩ = some x2 ∧ W.cell? ⟨E, 3, none⟩ = some x3 ∧ W.cell? ⟨E, 4, none⟩ = some x4 ∧ W.cell? ⟨E, 5, none⟩ = some x5 ∧ W.cell? ⟨E, 6, none⟩ = some x6) : Below B w W.drew ∧ W.drew.cell? ⟨E, 0, none⟩ = some x0 ∧ W.drew.cell? ⟨E, 1, none⟩ = some x1 ∧ W.drew.cell? ⟨E, 2, none⟩ = some x2 ∧ W.drew.cell? ⟨E, 3, none⟩ = some x3 ∧ W.drew.cell? ⟨E, 4, none⟩ = some x4 ∧ W.drew.cell? ⟨E, 5, none⟩ = some x5 ∧ W.drew.cell? ⟨E, 6, none⟩ = some x6 :=
  ⟨h.1.drew, h.2⟩
theorem k8_alloc {B E : Nat} {x0 x1 x2 x3 x4 x5 x6 : Value} {w W : World} (h : Below B w W ∧ W.cell? ⟨E, 0, none⟩ = some x0 ∧ W.cell? ⟨E, 1, none⟩ = some x1 ∧ W.cell? ⟨E, 2, none⟩ = some x2 ∧ W.cell? ⟨E, 3, none⟩ = some x3 ∧ W.cell? ⟨E, 4, none⟩ = some x4 ∧ W.cell? ⟨E, 5, none⟩ = some x5 ∧ W.cell? ⟨E, 6, none⟩ = some x6) (hE : Hid (E < W.heap.size)) (hB : Hid (B ≤ W.heap.size)) (o : Obj) : Below B w (W.alloc o) ∧ (W.alloc o).cell? ⟨E, 0, none⟩ = some x0 ∧ (W.alloc o).cell? ⟨E, 1, none⟩ = some x1 ∧ (W.alloc o).cell? ⟨E, 2, none⟩ = some x2 ∧ (W.alloc o).cell? ⟨E, 3, none⟩ = some x3 ∧ (W.alloc o).cell? ⟨E, 4, none⟩ = some x4 ∧ (W.alloc o).cell? ⟨E, 5, none⟩ = some x5 ∧ (W.alloc o).cell? ⟨E, 6, none⟩ = some x6 :=
  k8_below h ((Below.refl W.heap.size W).alloc (Nat.le_refl _) o) hE hB
theorem k8_grown {B E : Nat} {u : Value} {x0 x1 x2 x3 x4 x5 x6 : Value} {w W W' : World} (h : Below B w W ∧ W.cell? ⟨E, 0, none⟩ = some x0 ∧ W.cell? ⟨E, 1, none⟩ = some x1 ∧ W.cell? ⟨E, 2, none⟩ = some x2 ∧ W.cell? ⟨E, 3, none⟩ = some x3 ∧ W.cell? ⟨E, 4, none⟩ = some x4 ∧ W.cell? ⟨E, 5, none⟩ = some x5 ∧ W.cell? ⟨E, 6, none⟩ = some x6) (hg : W.grownBy W' u.ownBlock) (hu : Hid (∀ k, u.ownBlock = some k → B ≤ k ∧ k ≠ E)) (hE : Hid (E < W.heap.size)) (hB : Hid (B ≤ W.heap.size)) : Below B w W' ∧ W'.cell? ⟨E, 0, none⟩ = some x0 ∧ W'.cell? ⟨E, 1, none⟩ = some x1 ∧ W'.cell? ⟨E, 2, none⟩ = some x2 ∧ W'.cell? ⟨E, 3, none⟩ = some x3 ∧ W'.cell? ⟨E, 4, none⟩ = some x4 ∧ W'.cell? ⟨E, 5, none⟩ = some x5 ∧ W'.cell? ⟨E, 6, none⟩ = some x6 := by
  obtain ⟨h7, h0, h1, h2, h3, h4, h5, h6⟩ := h
  have hbl : W'.heap[E]? = W.heap[E]? := hg.block _ hE.out (fun e => (hu.out E e.symm).2 rfl)
  have hc := fun q => World.cell?_of_block (a := ⟨E, q, none⟩) hbl
  exact ⟨h7.trans ((Below.refl B W).grown hg hB.out (fun k hk => (hu.out k hk).1)), (hc 0).trans h0, (hc 1).trans h1, (hc 2).trans h2, (hc 3).trans h3, (hc 4).trans h4, (hc 5).trans h5, (hc 6).trans h6⟩
set_option maxRecDepth 100000 in
set_option maxHeartbeats 4000000 in
theorem implFormatLogA (a : Option Addr) (c : Nat) (L : List Ent) (w : World) (hl : L.length ≤ 2097152) (ha : AtE w a L) (hT : Tab w) :
    Calls Tryz.prog 9 #[.slice a L.length c] w fun e w' => e = .returned (str (fmtL L)) ∧ Below w.heap.size w w' := by
  have C1 := Lib.hid (implIsLogA a c L w hl ha)
  have HA := Lib.hid ha
  have HT := Lib.hid hT
  clear ha hT
  by_cases he : LOk L
  · have hO : decide (LOk L) = true := decide_eq_true he
    rw [hO] at C1
    by_cases h0 : L.length = 0
    · have HF := Lib.hid (show fmtL L = wordNone by unfold fmtL; rw [if_pos he, if_pos h0])
      obtain rfl : L = [] := List.eq_nil_of_length_eq_zero h0
      clear he hO h0
      go_enter Tryz.func9, Tryz.ntmps9
      go_wp2_with (go_at_call 38; refine (C1.out).mono ?_; rintro e w1 ⟨rfl, hb1⟩)
      go_ret
      exact ⟨by rw [HF.out]; rfl, hb1⟩
    · have HF := Lib.hid (show fmtL L = joinTo L L.length by unfold fmtL; rw [if_pos he, if_neg h0])
      have g0 : ((L.length : Int) == 0) = false := by rw [beq_eq_false_iff_ne]; omega
      have HO := Lib.hid he
      have h16 := he.2
      have hmk : ∀ W : World, (Instr.makeSlice 65 (.int .i64 0) (.int .i64 (L.length : Int))).run Tryz.prog W = .ok (.slice (some ⟨W.heap.size, 0, none⟩) 0 L.length) (W.alloc (.cells (madeCells #[.string ⟨#[]⟩] L.length) 9)) := fun W => by
        obtain ⟨i0, hi, hz0, hz1, hz2⟩ := info_parts infoT
        have h := run_make (P := Tryz.prog) W 65 9 i0 (.string ⟨#[]⟩) Tryz.underlying65 hi hz0 .i64 .i64 0 (L.length : Int) (by omega) (by omega) (by rw [hz2]; omega) (by omega)
        simpa [hz1, Value.cells] using h
      clear he hO
      go_enter Tryz.func9, Tryz.ntmps9
      go_wp2_with (go_at_call 38; refine (C1.out).mono ?_; rintro e w1 ⟨rfl, hb1⟩)
      have HB1 := Lib.hid hb1
      have hz1 := hb1.size
      clear hb1 g0 hmk
      go_loopw [3, 5, 17] (fun v _ i wr => ∃ k : Nat, k ≤ L.length ∧ i = .int .i64 k ∧ Hid (OwnT w.heap.size wr v (strE L k)) ∧ Hid (Below w.heap.size w wr)) (fun _ _ i _ => L.length - (intOf i).toNat)
      case atStart => exact ⟨0, Nat.zero_le _, rfl, Lib.hid (World.ownsRow_made w1 _ _ hz1 (by unfold maxLen; omega) (by simp [size_madeCells])), Lib.hid (HB1.out.alloc hz1 _)⟩
      case round =>
        obtain ⟨k, hk, rfl, HOW, HQ⟩ := hrel
        by_cases hlt : k < L.length
        · obtain ⟨g, o, rfl, hg, hc⟩ := HA.out k hlt
          obtain ⟨c0, c1, c2, c3, c4, c5, c6⟩ := hc.below HQ.out hg
          have hv := (HO.out.1 k hlt).1
          have he := entOk_e hv
          have HS := Lib.hid (strE_snoc L k hlt)
          have HLN := Lib.hid (strE_len L k (by omega))
          have hfo := fmtO_len (gE L k).c (gE L k).s (gE L k).k (gE L k).o (gE L k).d (gE L k).v
          unfold fmtE at HS
          clear hv
          generalize strE L k = S at *
          obtain ⟨xe, xc, xs, xk, xo, xd, xv, hx⟩ : ∃ xe xc xs xk xo xd xv, gE L k = ⟨xe, xc, xs, xk, xo, xd, xv⟩ := ⟨_, _, _, _, _, _, _, rfl⟩
          rw [hx] at c0 c1 c2 c3 c4 c5 c6 he HS hfo
          simp only at c0 c1 c2 c3 c4 c5 c6 he HS hfo
          clear hx hc
          have hle := itoa_le xe (by omega) (by omega)
          have k3 : (0 : Int) ≤ (k : Int) := by omega
          have k5 : (k : Int) < (L.length : Int) := by omega
          go_wp2_with fail
          clear c0 c1 c2 c3 c4 c5 c6
          obtain ⟨W1, hW1⟩ : ∃ W, W = (wr.alloc (.cells #[.int .i64 xe, .int .i64 xc, .int .i64 xs, .int .i64 xk, .int .i64 xo, .int .i64 xd, .int .i64 xv] 75)) := ⟨_, rfl⟩
          have c0 : W1.cell? ⟨wr.heap.size, 0, none⟩ = some (.int .i64 xe) := by rw [hW1, World.cell?_alloc_at _ _ _ _ rfl]; rfl
          have c1 : W1.cell? ⟨wr.heap.size, 1, none⟩ = some (.int .i64 xc) := by rw [hW1, World.cell?_alloc_at _ _ _ _ rfl]; rfl
          have c2 : W1.cell? ⟨wr.heap.size, 2, none⟩ = some (.int .i64 xs) := by rw [hW1, World.cell?_alloc_at _ _ _ _ rfl]; rfl
          have c3 : W1.cell? ⟨wr.heap.size, 3, none⟩ = some (.int .i64 xk) := by rw [hW1, World.cell?_alloc_at _ _ _ _ rfl]; rfl
          have c4 : W1.cell? ⟨wr.heap.size, 4, none⟩ = some (.int .i64 xo) := by rw [hW1, World.cell?_alloc_at _ _ _ _ rfl]; rfl
          have c5 : W1.cell? ⟨wr.heap.size, 5, none⟩ = some (.int .i64 xd) := by rw [hW1, World.cell?_alloc_at _ _ _ _ rfl]; rfl
          have c6 : W1.cell? ⟨wr.heap.size, 6, none⟩ = some (.int .i64 xv) := by rw [hW1, World.cell?_alloc_at _ _ _ _ rfl]; rfl
          have hbW : Below wr.heap.size wr W1.drew := by rw [hW1]; exact ((Below.refl _ _).alloc (Nat.le_refl _) _).drew
          have hsW : W1.heap.size = wr.heap.size + 1 := by rw [hW1]; simp
          have HBW := Lib.hid (HQ.out.trans (hbW.mono HQ.out.size))
          have HOW1 := Lib.hid (HOW.out.later hbW)
          have HE1 := Lib.hid (show wr.heap.size < W1.drew.heap.size by show wr.heap.size < W1.heap.size; omega)
          have hqs := HQ.out.size
          have HN1 := Lib.hid (show w.heap.size ≤ W1.drew.heap.size by show w.heap.size ≤ W1.heap.size; omega)
          have HU := Lib.hid HOW.out.apart
          have J1 := Lib.hid (implFormatInt xe W1.drew (by omega) (by omega) (HT.out.below HBW.out))
          have j2 := fun W (h : Below w.heap.size w W) => implFormatOp xc xs xk xo xd xv W (HT.out.below h)
          unfold opV at j2
          have J2 := fun W h => Lib.hid (j2 W h)
          clear j2 he hbW
          rw [← hW1]
          clear hW1
          generalize fmtO xc xs xk xo xd xv = fo at *
          generalize Lib.itoa xe = fe at *
          have e1 : ¬ (9223372036854775807 < fe.length + 1) := by omega
          have e2 : ¬ (9223372036854775807 < fe.length + 1 + fo.length) := by omega
          have hSl : S.length ≤ 100000 := by rw [HLN.out]; omega
          have hS0 : Below w.heap.size w W1.drew ∧ W1.drew.cell? ⟨wr.heap.size, 0, none⟩ = some (.int .i64 xe) ∧ W1.drew.cell? ⟨wr.heap.size, 1, none⟩ = some (.int .i64 xc) ∧ W1.drew.cell? ⟨wr.heap.size, 2, none⟩ = some (.int .i64 xs) ∧ W1.drew.cell? ⟨wr.heap.size, 3, none⟩ = some (.int .i64 xk) ∧ W1.drew.cell? ⟨wr.heap.size, 4, none⟩ = some (.int .i64 xo) ∧ W1.drew.cell? ⟨wr.heap.size, 5, none⟩ = some (.int .i64 xd) ∧ W1.drew.cell? ⟨wr.heap.size, 6, none⟩ = some (.int .i64 xv) := ⟨HBW.out, c0, c1, c2, c3, c4, c5, c6⟩
          clear c0 c1 c2 c3 c4 c5 c6
          go_region_held3 (fun w' => Below w.heap.size w w' ∧ w'.cell? ⟨wr.heap.size, 0, none⟩ = some (.int .i64 xe) ∧ w'.cell? ⟨wr.heap.size, 1, none⟩ = some (.int .i64 xc) ∧ w'.cell? ⟨wr.heap.size, 2, none⟩ = some (.int .i64 xs) ∧ w'.cell? ⟨wr.heap.size, 3, none⟩ = some (.int .i64 xk) ∧ w'.cell? ⟨wr.heap.size, 4, none⟩ = some (.int .i64 xo) ∧ w'.cell? ⟨wr.heap.size, 5, none⟩ = some (.int .i64 xd) ∧ w'.cell? ⟨wr.heap.size, 6, none⟩ = some (.int .i64 xv))
            (first | (with_reducible assumption) | (with_reducible exact k8_drew (by with_reducible assumption)) | (with_reducible exact k8_below (by with_reducible assumption) hb2 HE1 HN1) | (with_reducible exact k8_below (by with_reducible assumption) hb3 HE2 HN2) | (with_reducible exact k8_alloc (by with_reducible assumption) HE3 HN3 _) | (with_reducible exact k8_grown (by with_reducible assumption) hg4 HU HE4 HN4))
            (first
            | (go_at_call 32; (with_reducible refine J1.out.mono ?_); rintro e w2 ⟨rfl, hb2⟩; have HE2 := Lib.hid (Nat.lt_of_lt_of_le HE1.out hb2.size); have HN2 := Lib.hid (Nat.le_trans HN1.out hb2.size); have HBW2 := Lib.hid (HBW.out.trans (hb2.mono HN1.out)); have HOW2 := Lib.hid (HOW1.out.later hb2); have J3 := J2 w2 HBW2.out)
            | (go_at_call 6; (with_reducible refine J3.out.mono ?_); rintro e w3 ⟨rfl, hb3⟩; have HE3 := Lib.hid (Nat.lt_of_lt_of_le HE2.out hb3.size); have HN3 := Lib.hid (Nat.le_trans HN2.out hb3.size); have HOW3 := Lib.hid (HOW2.out.later hb3))
            | (refine step_appT rfl (.tmp 21) (.tmp 30) rfl w.heap.size _ S ?_ HOW3.out _ ?_ hSl HN3.out ?_; simp [Act.eval]; simp [Act.eval]; intro v4 w4 ho4 hg4; have HE4 := Lib.hid (Nat.lt_of_lt_of_le HE3.out (size_upT w3 (.cells #[.string (⟨fe.toArray⟩ ++ ⟨#[58]⟩ ++ ⟨fo.toArray⟩)] 9))); have HN4 := Lib.hid (Nat.le_trans HN3.out (size_upT w3 (.cells #[.string (⟨fe.toArray⟩ ++ ⟨#[58]⟩ ++ ⟨fo.toArray⟩)] 9)))))
          all_goals
            rename_i hSE
            have HZ := Lib.hid hSE.1
            clear e1 e2 hSE
            go_wp2_with fail
            go_roundw
            case rel => exact ⟨k + 1, by omega, by go_num, Lib.hid (by rw [HS.out, ← cat3]; exact ho4), HZ⟩
            case measure => simp [intOf]; omega
        · obtain rfl : k = L.length := by omega
          clear hlt hk
          have HLN := strE_len L L.length (Nat.le_refl _)
          have hpos : 0 < L.length := by omega
          obtain ⟨g, cc, hv, hcap, hgl, hcell⟩ := HOW.out.there (by rw [HLN]; exact hpos)
          have hmap : (strE L L.length).map (·.data.toList) = L.map fmtE := by
            unfold strE; rw [List.take_length, List.map_map]; rfl
          have hjl := joinTo_len HO.out L.length (Nat.le_refl _)
          have J := Tryz.strings_Join g 0 cc (strE L L.length) ⟨#[59]⟩ wr hcell hgl (by rw [HLN]; omega) hcap (by rw [hmap, show (⟨#[59]⟩ : ByteArray).data.toList = [59] from rfl, joinTo_join]; omega)
          rw [hmap, show (⟨#[59]⟩ : ByteArray).data.toList = [59] from rfl, joinTo_join, HLN] at J
          rw [HLN] at hv
          subst hv
          have HJ := Lib.hid J
          clear J hmap hcell hgl hcap HLN hjl hpos HOW
          go_wp2_with (go_at_call 39; refine HJ.out.mono ?_; rintro e w2 ⟨rfl, hb2⟩)
          go_ret
          exact ⟨by rw [HF.out]; rfl, HQ.out.trans (hb2.mono HQ.out.size)⟩
  · have HF := Lib.hid (show fmtL L = [] by unfold fmtL; rw [if_neg he])
    rw [decide_eq_false he] at C1
    clear he
    go_enter Tryz.func9, Tryz.ntmps9
    go_wp2_with (go_at_call 38; refine (C1.out).mono ?_; rintro e w1 ⟨rfl, hb1⟩)
    go_ret
    exact ⟨by rw [HF.out]; rfl, hb1⟩
theorem implFormatLog (b : Nat) (v : Value) (L : List Ent) (w : World) (h : L.length ≤ 2097152) (o : OwnE b w v L) (hT : Tab w) :
    Calls Tryz.prog 9 #[v] w fun e w' => e = .returned (.string ⟨(fmtL L).toArray⟩) ∧ Below w.heap.size w w' := by
  obtain ⟨a, c, rfl, _, _, at1, _⟩ := o.form
  exact implFormatLogA a c L w h at1 hT
end Go.Proofs.YtgjebjoaemeeoaaGreatDoor.kit
namespace Go.Proofs.YtgjebjoaemeeoaaGreatDoor.kit
set_option linter.unusedVariables false
set_option linter.unusedSimpArgs false

theorem itoa_hi {n : Int} (h : 0 ≤ n) {x : UInt8} (hx : 57 < x.toNat) : x ∉ Lib.itoa n := fun hb => by have := itoa_byte h x hb; omega
theorem fmtO_hi {c s k o d v : Int} (h : okOp c s k o d v = true) {x : UInt8} (h1 : 57 < x.toNat) (h2 : x.toNat < 97) : x ∉ fmtO c s k o d v := by
  obtain ⟨hc, hs, ho, hv, hd⟩ := okOp_kind h
  have hd0 : 0 ≤ d := by rcases hd with ⟨_, rfl⟩ | ⟨_, h⟩ <;> omega
  have n1 := itoa_hi (n := c) (by omega) h1
  have n2 := itoa_hi (n := s) (by omega) h1
  have n3 := itoa_hi (n := o) (by omega) h1
  have n4 := itoa_hi (n := v) (by omega) h1
  have n5 := itoa_hi hd0 h1
  have m : ∀ y : UInt8, (y.toNat ≤ 57 ∨ 97 ≤ y.toNat) → x ≠ y := fun y hy e => by subst e; omega
  unfold fmtO
  rw [if_pos h]
  unfold fmtA
  split
  · simp only [List.mem_append, List.mem_cons, List.not_mem_nil, or_false, not_or, wordWrite]
    refine ⟨⟨⟨⟨n1, m 46 (by decide)⟩, n2⟩, m 32 (by decide)⟩, ⟨⟨?_, n3⟩, m 32 (by decide)⟩, n4⟩
    refine ⟨m _ (by decide), m _ (by decide), m _ (by decide), m _ (by decide), m _ (by decide), m _ (by decide)⟩
  · simp only [List.mem_append, List.mem_cons, List.not_mem_nil, or_false, not_or, wordSwap]
    refine ⟨⟨⟨⟨n1, m 46 (by decide)⟩, n2⟩, m 32 (by decide)⟩, ⟨⟨⟨⟨?_, n3⟩, m 32 (by decide)⟩, n5⟩, m 32 (by decide)⟩, n4⟩
    refine ⟨m _ (by decide), m _ (by decide), m _ (by decide), m _ (by decide), m _ (by decide)⟩
def opE (x : Ent) : Bool := okOp x.c x.s x.k x.o x.d x.v
theorem entOk_op {x : Ent} (h : entOk x = true) : opE x = true := by
  unfold entOk at h
  simp only [Bool.and_eq_true] at h
  exact h.2
theorem fmtE_no {x : Ent} (h : entOk x = true) : (59 : UInt8) ∉ fmtE x := by
  have he := entOk_e h
  unfold fmtE
  simp only [List.mem_append, List.mem_cons, List.not_mem_nil, or_false, not_or]
  exact ⟨⟨itoa_hi (by omega) (by decide), by decide⟩, fmtO_hi (entOk_op h) (by decide) (by decide)⟩
/-- one entry, read as the specification does -/
def looseE (p : List UInt8) : Ent :=
  ⟨numL ((cuts 58 p).getD 0 []), (parO ((cuts 58 p).getD ((cuts 58 p).length - 1) [])).1, (parO ((cuts 58 p).getD ((cuts 58 p).length - 1) [])).2.1, (parO ((cuts 58 p).getD ((cuts 58 p).length - 1) [])).2.2.1,
    (parO ((cuts 58 p).getD ((cuts 58 p).length - 1) [])).2.2.2.1, (parO ((cuts 58 p).getD ((cuts 58 p).length - 1) [])).2.2.2.2.1, (parO ((cuts 58 p).getD ((cuts 58 p).length - 1) [])).2.2.2.2.2⟩
theorem loose_fmt {x : Ent} (h : entOk x = true) : looseE (fmtE x) = x := by
  have he := entOk_e h
  have ho := entOk_op h
  have e : cuts 58 (fmtE x) = [Lib.itoa x.e, fmtO x.c x.s x.k x.o x.d x.v] := by
    unfold fmtE
    rw [List.append_assoc, List.singleton_append, cuts_app (itoa_hi (by omega) (by decide)), cuts_none (fmtO_hi ho (by decide) (by decide))]
  unfold looseE
  rw [e]
  simp only [List.length_cons, List.length_nil, List.getD_cons_zero, List.getD_cons_succ, Nat.reduceAdd, Nat.reduceSub]
  rw [num_itoa (by omega) (by omega), (par_fmt ho).2]
/-- one entry, read as the program does -/
def peOk (p : List UInt8) : Bool := parOk (Lib.cut p [58]).1 && parOok (Lib.cut p [58]).2.1
def peE (p : List UInt8) : Ent :=
  ⟨parN (Lib.cut p [58]).1, (parO (Lib.cut p [58]).2.1).1, (parO (Lib.cut p [58]).2.1).2.1, (parO (Lib.cut p [58]).2.1).2.2.1, (parO (Lib.cut p [58]).2.1).2.2.2.1, (parO (Lib.cut p [58]).2.1).2.2.2.2.1, (parO (Lib.cut p [58]).2.1).2.2.2.2.2⟩
theorem parOok_nil : parOok [] = false := by
  unfold parOok fitP
  simp [cuts]
theorem pe_fmt {x : Ent} (h : entOk x = true) : peOk (fmtE x) = true ∧ peE (fmtE x) = x := by
  have he := entOk_e h
  have ho := entOk_op h
  have e : Lib.cut (fmtE x) [58] = (Lib.itoa x.e, fmtO x.c x.s x.k x.o x.d x.v, true) := by
    unfold fmtE
    rw [List.append_assoc, List.singleton_append, cut_app (itoa_hi (by omega) (by decide))]
  have hp := par_itoa (n := x.e) (by omega) (by omega)
  have hf := par_fmt ho
  unfold peOk peE
  rw [e]
  simp only
  rw [hp.1, hp.2, hf.1, hf.2]
  exact ⟨rfl, rfl⟩
theorem pe_sound {p : List UInt8} (h : peOk p = true) : fmtE (peE p) = p := by
  unfold peOk at h
  rw [Bool.and_eq_true] at h
  rcases first_x 58 p with hn | ⟨a, r, hn, rfl⟩
  · rw [cut_none hn] at h
    simp only at h
    rw [parOok_nil] at h
    cases h.2
  · have e := cut_app (r := r) hn
    rw [e] at h
    simp only at h
    unfold fmtE peE
    rw [e]
    simp only
    have hs := (par_sound h.2).2
    unfold fmtT at hs
    rw [itoa_par h.1, hs]
    simp
/-- the entries that the specification reads -/
def outL (s : List UInt8) : List Ent := ((cuts 59 s).take 17).map looseE
def okPL (s : List UInt8) : Prop := s = wordNone ∨ (s ≠ [] ∧ fmtL (outL s) = s)
instance (s : List UInt8) : Decidable (okPL s) := inferInstanceAs (Decidable (_ ∨ _))
/-- ParseLog's two results -/
def parLok (s : List UInt8) : Bool := decide (okPL s)
def parLl (s : List UInt8) : List Ent := if s = wordNone then [] else if okPL s then outL s else []
theorem outL_len (s : List UInt8) : (outL s).length ≤ 17 := by unfold outL; rw [List.length_map, List.length_take]; omega
theorem parLl_len (s : List UInt8) : (parLl s).length ≤ 2097152 := by
  have := outL_len s
  unfold parLl
  split
  · simp
  · split
    · omega
    · simp
theorem joinTo_X (L : List Ent) : joinTo L L.length = joinX 59 (L.map fmtE) := by rw [← joinTo_join, join_joinX]
theorem gE_memE {L : List Ent} {x : Ent} (h : LOk L) (hx : x ∈ L) : entOk x = true := by
  obtain ⟨j, hj, rfl⟩ := List.mem_iff_getElem.1 hx
  have := (h.1 j hj).1
  unfold gE at this
  rw [List.getD_eq_getElem?_getD, List.getElem?_eq_getElem hj] at this
  exact this
theorem wordNone_no {L : List Ent} (h : LOk L) (h0 : L ≠ []) : joinX 59 (L.map fmtE) ≠ wordNone := fun e => by
  -- the first entry's text holds a ':' which the word has not
  cases L with
  | nil => exact h0 rfl
  | cons x L =>
    have hm : (58 : UInt8) ∈ joinX 59 ((x :: L).map fmtE) := by
      cases L with
      | nil => simp [joinX, fmtE]
      | cons y L => simp [joinX, fmtE]
    rw [e] at hm
    revert hm
    decide
/-- what the program reads strictly, the specification reads so -/
theorem strict_yes {s : List UInt8} (hn : s ≠ wordNone) (h1 : ∀ p ∈ Lib.splitK [59] 0 15 s, peOk p = true) (h2 : LOk ((Lib.splitK [59] 0 15 s).map peE)) :
    parLok s = true ∧ parLl s = (Lib.splitK [59] 0 15 s).map peE := by
  have hj := join_split 59 15 s
  have hp := split_pos 59 15 s
  generalize hps : Lib.splitK [59] 0 15 s = ps at *
  have hpf : (ps.map peE).map fmtE = ps := by
    rw [List.map_map]
    conv => rhs; rw [← List.map_id ps]
    exact List.map_congr_left (fun p hpm => pe_sound (h1 p hpm))
  have hno : ∀ p ∈ ps, (59 : UInt8) ∉ p := fun p hpm => by
    have := fmtE_no (gE_memE h2 (List.mem_map_of_mem (f := peE) hpm))
    rwa [pe_sound (h1 p hpm)] at this
  have hne : ps ≠ [] := fun e => by rw [e] at hp; simp at hp
  have hc : cuts 59 s = ps := by rw [← hj]; exact cuts_join hne hno
  have hl16 : ps.length ≤ 16 := by have := h2.2; rwa [List.length_map] at this
  have ho : outL s = ps.map peE := by
    unfold outL
    rw [hc, List.take_of_length_le (by omega)]
    refine List.map_congr_left (fun p hpm => ?_)
    have := loose_fmt (gE_memE h2 (List.mem_map_of_mem (f := peE) hpm))
    rwa [pe_sound (h1 p hpm)] at this
  have hf : fmtL (ps.map peE) = s := by
    unfold fmtL
    rw [if_pos h2, if_neg (by rw [List.length_map]; omega), joinTo_X, hpf, hj]
  have hs0 : s ≠ [] := fun e => by
    have hq := h1 [] (by
      rw [e] at hps
      rw [← hps]
      rw [split_none (by simp)]; simp)
    unfold peOk at hq
    rw [cut_none (by simp)] at hq
    simp only [par_nil, Bool.false_and] at hq
    cases hq
  have hok : okPL s := .inr ⟨hs0, by rw [ho]; exact hf⟩
  refine ⟨decide_eq_true hok, ?_⟩
  unfold parLl
  rw [if_neg hn, if_pos hok, ho]
/-- and the other way round -/
theorem strict_no {s : List UInt8} (hn : s ≠ wordNone) (h : ¬ ((∀ p ∈ Lib.splitK [59] 0 15 s, peOk p = true) ∧ LOk ((Lib.splitK [59] 0 15 s).map peE))) :
    parLok s = false ∧ parLl s = [] := by
  have hno : ¬ okPL s := fun hok => by
    rcases hok with e | ⟨hs0, hf⟩
    · exact hn e
    · have hL : LOk (outL s) := by
        by_cases hL : LOk (outL s)
        · exact hL
        · exfalso
          apply hs0
          rw [← hf]
          unfold fmtL
          rw [if_neg hL]
      have hne : outL s ≠ [] := fun e => by
        have h1 := congrArg List.length e
        unfold outL at h1
        rw [List.length_map, List.length_take] at h1
        have := List.length_pos_iff.2 (cuts_ne 59 s)
        simp only [List.length_nil] at h1
        omega
      have hj : joinX 59 ((outL s).map fmtE) = s := by
        rw [← joinTo_X]
        have h1 := hf
        unfold fmtL at h1
        rwa [if_pos hL, if_neg (by intro h0; exact hne (List.eq_nil_of_length_eq_zero h0))] at h1
      have hsp : Lib.splitK [59] 0 15 s = (outL s).map fmtE := by
        conv => lhs; rw [← hj]
        refine split_join (by simpa using hne) (fun p hp => ?_) (by rw [List.length_map]; have := hL.2; omega)
        obtain ⟨x, hx, rfl⟩ := List.mem_map.1 hp
        exact fmtE_no (gE_memE hL hx)
      apply h
      rw [hsp]
      refine ⟨fun p hp => ?_, ?_⟩
      · obtain ⟨x, hx, rfl⟩ := List.mem_map.1 hp
        exact (pe_fmt (gE_memE hL hx)).1
      · have : ((outL s).map fmtE).map peE = outL s := by
          rw [List.map_map]
          conv => rhs; rw [← List.map_id (outL s)]
          exact List.map_congr_left (fun x hx => (pe_fmt (gE_memE hL hx)).2)
        rw [this]
        exact hL
  refine ⟨decide_eq_false hno, ?_⟩
  unfold parLl
  rw [if_neg hn, if_neg hno]
end Go.Proofs.YtgjebjoaemeeoaaGreatDoor.kit
namespace Go.Proofs.YtgjebjoaemeeoaaGreatDoor.kit
open Go.ChangeShapes Go.WideShapes Go.ChangeAt Go.RowKit
set_option linter.unusedVariables false

theorem sizeBuilder : (Tryz.prog.info? 90).map (·.size) = some 2 := by kernel_rfl
theorem infoByteB : (Tryz.prog.info? 5).map (fun i => (i.zero, i.size, i.bytes)) = some (some (.int .u8 0), 1, 1) := by kernel_rfl
set_option maxRecDepth 100000 in
set_option maxHeartbeats 1000000 in
theorem copyCheck_used (b : Nat) (w : World) (h0 : w.cell? ⟨b, 0, none⟩ = some (.pointer (some ⟨b, 0, none⟩))) :
    Calls Tryz.prog 86 #[.pointer (some ⟨b, 0, none⟩)] w fun e w' => e = .returned (.tuple #[]) ∧ w' = w := by
  obtain ⟨j, hj, _⟩ := Option.map_eq_some_iff.1 sizeBuilder
  have hn := fun (w : World) => Lib.run_neq_ptr_same w (⟨b, 0, none⟩ : Addr) Tryz.underlying88 hj
  clear hj
  go_enter Tryz.func86, Tryz.ntmps86
  go_wp2_with fail
  go_end0
  exact ⟨rfl, rfl⟩
set_option maxRecDepth 100000 in
set_option maxHeartbeats 1000000 in
theorem copyCheck_fresh (b : Nat) (w : World) (h0 : w.cell? ⟨b, 0, none⟩ = some (.pointer none)) (hsh : w.shape? b = some (90, 2)) (hfz : w.frozen? ⟨b, 0, none⟩ = false) :
    Calls Tryz.prog 86 #[.pointer (some ⟨b, 0, none⟩)] w fun e w' => e = .returned (.tuple #[]) ∧ w' = w.setCell ⟨b, 0, none⟩ (.pointer (some ⟨b, 0, none⟩)) := by
  obtain ⟨j, hj, hjs⟩ := Option.map_eq_some_iff.1 sizeBuilder
  have hu := Lib.run_to_unsafe w ⟨b, 0, none⟩ Tryz.underlying88 Tryz.underlying142 hj (by rw [hjs]; decide) hsh (Nat.zero_lt_succ 1)
  have hv := Lib.run_from_unsafe w ⟨b, 0, none⟩ Tryz.underlying142 Tryz.underlying88 hj hsh (by kernel_rfl)
  have hc := fun (args : Array Value) (W : World) => run_callFunc_extern (P := Tryz.prog) Tryz.func106 (by kernel_rfl) (by kernel_rfl) (by kernel_rfl) (e := Extern.AbiNoEscape.same) (by kernel_rfl) args W
  clear hj hjs
  go_enter Tryz.func86, Tryz.ntmps86
  have hn := fun (x : Value) (W : World) => Lib.run_noEscape (P := Tryz.prog) (w := W) x
  go_wp2_with fail
  go_end0
  exact ⟨rfl, rfl⟩
abbrev IsB (B b : Nat) (bs : List Value) (w : World) : Prop := Lib.IsBuilder 90 5 B b bs w
theorem copyCheck (B b : Nat) (bs : List Value) (w : World) (h : IsB B b bs w) :
    Calls Tryz.prog 86 #[.pointer (some ⟨b, 0, none⟩)] w fun e w' => e = .returned (.tuple #[]) ∧ (Lib.BuilderAt 90 5 B b (.pointer (some ⟨b, 0, none⟩)) bs w' ∧ Below B w w') := by
  rcases h with h | h
  · refine (copyCheck_fresh b w h.cell0 h.shape h.frozen0).mono ?_
    rintro e w' ⟨rfl, rfl⟩
    exact ⟨rfl, h.used _, (Below.refl B w).setCell (p := ⟨b, 0, none⟩) h.1 _⟩
  · refine (copyCheck_used b w h.cell0).mono ?_
    rintro e w' ⟨rfl, rfl⟩
    exact ⟨rfl, h, Below.refl B _⟩
set_option maxRecDepth 100000 in
set_option maxHeartbeats 2000000 in
theorem writeString (B b : Nat) (bs : List Value) (s : ByteArray) (w : World) (h : IsB B b bs w) (hlen : bs.length + s.size ≤ 140737488355328) (hBw : B ≤ w.heap.size) :
    Calls Tryz.prog 48 #[.pointer (some ⟨b, 0, none⟩), .string s] w fun e w' => e = .returned (.tuple #[.int .i64 s.size, .nilIface]) ∧ (IsB B b (bs ++ Lib.strCells s) w' ∧ Below B w w') := by
  obtain ⟨i0, hi, hz0, hz1, hz2⟩ := info_parts infoByteB
  go_enter Tryz.func48, Tryz.ntmps48
  go_wp2_with fail
  refine (copyCheck B b bs _ h).mono ?_
  rintro e w1 ⟨rfl, h1, hb1⟩
  obtain ⟨hB, v, hbk, hown, hne⟩ := h1
  have c0 : w1.cell? ⟨b, 0, none⟩ = some (.pointer (some ⟨b, 0, none⟩)) := by rw [Lib.cell_of_heap hbk]; rfl
  have c1 : w1.cell? ⟨b, 1, none⟩ = some v := by rw [Lib.cell_of_heap hbk]; rfl
  go_wp2_with (at_builtin; refine Lib.wpList_append_own_string _ rfl _ _ 22 9 rfl B 5 i0 Tryz.underlying22 Tryz.underlying9 hi hz0 hz1 hz2 _ _ _ rfl hown s rfl ?c3 ?c4 ?c5 ?_)
  case c3 => unfold maxLen; omega
  case c4 => omega
  case c5 => have := hb1.size; omega
  intro v' w2 hown' hgrow _
  have hlt : b < w1.heap.size := by
    rcases Nat.lt_or_ge b w1.heap.size with h' | h'
    · exact h'
    · simp [Array.getElem?_eq_none h'] at hbk
  have hb2 : w2.heap[b]? = some (.cells #[.pointer (some ⟨b, 0, none⟩), v] 90 (0, 0)) := by
    rw [hgrow.block b hlt (fun e => hne e.symm)]
    exact hbk
  have d0 : w2.cell? ⟨b, 0, none⟩ = some (.pointer (some ⟨b, 0, none⟩)) := by rw [Lib.cell_of_heap hb2]; rfl
  have d1 : w2.cell? ⟨b, 1, none⟩ = some v := by rw [Lib.cell_of_heap hb2]; rfl
  have f1 : w2.frozen? ⟨b, 1, none⟩ = false := Lib.frozen_of_heap hb2 1
  obtain ⟨ao, n', cap, rfl⟩ : ∃ ao n' cap, v' = .slice ao n' cap := by
    rcases hown'.2 with ⟨hv, _⟩ | ⟨g, cap, cur, hv, _⟩
    · exact ⟨_, _, _, hv⟩
    · exact ⟨_, _, _, hv⟩
  go_wp2_with fail
  go_returns
  refine ⟨rfl, ?_, ?_⟩
  · exact .inr (Lib.BuilderAt.put (T := 90) (e := 5) hB hb2 (bs' := bs ++ Lib.strCells s) (by simpa [Lib.strCells_length] using hown') (by decide))
  · exact (hb1.grown hgrow (by have := hb1.size; omega) (fun k hk => (hown.lt k hk).1)).setCell (p := ⟨b, 1, none⟩) hB _
end Go.Proofs.YtgjebjoaemeeoaaGreatDoor.kit
namespace Go.Proofs.YtgjebjoaemeeoaaGreatDoor.kit
open Go.ChangeShapes Go.WideShapes Go.ChangeAt Go.RowKit
set_option linter.unusedVariables false

def sgn (d : Bool) : UInt8 := if d then 43 else 45
def fmtX (x : Sess) : List UInt8 := Lib.itoa x.1 ++ ([46] ++ (Lib.itoa x.2.1 ++ ([sgn x.2.2.1] ++ Lib.itoa x.2.2.2)))
def fmtXs (l : List Sess) : List UInt8 := l.flatMap fun x => [32] ++ fmtX x
def fmtOs (l : List Int) : List UInt8 := l.flatMap Lib.itoa
def fmtM (L1 : List Int) (L2 : List Sess) : List UInt8 := if MOk L1 L2 then fmtOs L1 ++ fmtXs L2 else []
theorem okV_in' {v : Int} (h : okV v = true) : 0 ≤ v ∧ v ≤ 9 := of_decide_eq_true h
theorem okC_in' {v : Int} (h : okC v = true) : 0 ≤ v ∧ v ≤ 2 := of_decide_eq_true h
theorem okS_in' {v : Int} (h : okS v = true) : 1 ≤ v ∧ v ≤ 99 := of_decide_eq_true h
theorem sessOk_in {c s : Int} {d : Bool} {v : Int} (h : sessOk (c, s, d, v) = true) : (0 ≤ c ∧ c ≤ 2) ∧ (1 ≤ s ∧ s ≤ 99) ∧ (0 ≤ v ∧ v ≤ 9) := by
  unfold sessOk at h
  simp only [Bool.and_eq_true] at h
  exact ⟨okC_in' h.1, okS_in' h.2.1, okV_in' h.2.2⟩
theorem fmtOs_snoc (l : List Int) (k : Nat) (h : k < l.length) : fmtOs (l.take (k + 1)) = fmtOs (l.take k) ++ Lib.itoa (l.getD k 0) := by
  unfold fmtOs
  rw [take_snocI l k h, List.flatMap_append]
  simp
theorem take_snocS (l : List Sess) (k : Nat) (h : k < l.length) : l.take (k + 1) = l.take k ++ [sg l k] := by
  rw [List.take_succ_eq_append_getElem h, sg_eq h]
theorem fmtXs_snoc (l : List Sess) (k : Nat) (h : k < l.length) : fmtXs (l.take (k + 1)) = fmtXs (l.take k) ++ ([32] ++ fmtX (sg l k)) := by
  unfold fmtXs
  rw [take_snocS l k h, List.flatMap_append]
  simp
theorem fmtOs_len {l : List Int} {L2 : List Sess} (h : MOk l L2) (k : Nat) : (fmtOs (l.take k)).length ≤ 63 := by
  have h3 := h.1
  have hv := h.2.1
  match l, h3 with
  | [a, b, c], _ =>
    have ha := okV_in' (hv 0 (by simp))
    have hb := okV_in' (hv 1 (by simp))
    have hc := okV_in' (hv 2 (by simp))
    simp only [List.getD_cons_zero, List.getD_cons_succ] at ha hb hc
    have la := itoa_le a (by omega) (by omega)
    have lb := itoa_le b (by omega) (by omega)
    have lc := itoa_le c (by omega) (by omega)
    unfold fmtOs
    match k with
    | 0 => simp
    | 1 => simp; omega
    | 2 => simp; omega
    | (n + 3) => simp; omega
theorem fmtXs_len {L1 : List Int} {l : List Sess} (h : MOk L1 l) (k : Nat) : (fmtXs (l.take k)).length ≤ 66 * k := by
  induction k with
  | zero => simp [fmtXs]
  | succ k ih =>
    by_cases hk : k < l.length
    · rw [fmtXs_snoc l k hk]
      have hs := (h.2.2 k hk).1
      obtain ⟨c, s, d, v, hx⟩ : ∃ c s d v, sg l k = (c, s, d, v) := ⟨_, _, _, _, rfl⟩
      rw [hx] at hs ⊢
      obtain ⟨h1, h2, h3⟩ := sessOk_in hs
      have l1 := itoa_le c (by omega) (by omega)
      have l2 := itoa_le s (by omega) (by omega)
      have l3 := itoa_le v (by omega) (by omega)
      simp [fmtX]
      omega
    · rw [List.take_of_length_le (by omega)] at ih ⊢
      omega
set_option maxRecDepth 100000 in
set_option maxHeartbeats 8000000 in
theorem specFormatMachineA (a1 : Option Addr) (c1 : Nat) (L1 : List Int) (a2 : Option Addr) (c2 : Nat) (L2 : List Sess) (w : World) (h1 : L1.length ≤ 4194304) (h2 : L2.length ≤ 4194304) (ha1 : At w a1 L1) (ha2 : AtS w a2 L2) :
    Calls Tryz.prog 24 #[.agg #[.slice a1 L1.length c1, .slice a2 L2.length c2]] w fun e w' => e = .returned (str (fmtM L1 L2)) ∧ Below w.heap.size w w' := by
  obtain ⟨WB, hWB⟩ : ∃ W, W = w.alloc (.cells #[.slice a1 L1.length c1, .slice a2 L2.length c2] 44) := ⟨_, rfl⟩
  have x0 : WB.cell? ⟨w.heap.size, 0, none⟩ = some (.slice a1 L1.length c1) := by rw [hWB, World.cell?_alloc_at _ _ _ _ rfl]; rfl
  have x1 : WB.cell? ⟨w.heap.size, 1, none⟩ = some (.slice a2 L2.length c2) := by rw [hWB, World.cell?_alloc_at _ _ _ _ rfl]; rfl
  have HB := Lib.hid (show Below w.heap.size w WB by rw [hWB]; exact (Below.refl _ _).alloc (Nat.le_refl _) _)
  have hlt : w.heap.size < WB.heap.size := by rw [hWB]; simp
  have HW := Lib.hid hWB
  clear hWB
  have jv := specIsValidMachineA a1 c1 L1 a2 c2 L2 WB h1 h2 (ha1.later HB.out) (ha2.later HB.out)
  have HA1 := Lib.hid ha1
  have HA2 := Lib.hid ha2
  clear ha1 ha2
  by_cases hm : MOk L1 L2
  · rw [decide_eq_true hm] at jv
    have HM := Lib.hid hm
    have HF := Lib.hid (show fmtM L1 L2 = fmtOs L1 ++ fmtXs L2 by unfold fmtM; rw [if_pos hm])
    have JV := Lib.hid jv
    clear hm jv
    go_enter Tryz.func24, Tryz.ntmps24
    go_wp2_with fail
    rw [← HW.out]
    refine JV.out.mono ?_
    rintro e w1 ⟨rfl, hb⟩
    have HQ0 := Lib.hid hb
    replace x0 := (hb.cell (p := ⟨w.heap.size, 0, none⟩) hlt).trans x0
    replace x1 := (hb.cell (p := ⟨w.heap.size, 1, none⟩) hlt).trans x1
    replace hlt := Nat.lt_of_lt_of_le hlt hb.size
    replace HB := Lib.hid (HB.out.trans (hb.mono HB.out.size))
    clear hb JV HW
    go_wp2_with fail
    go_loopw [3, 4] (fun t i wr => ∃ k : Nat, k ≤ L1.length ∧ i = .int .i64 k ∧ t = str (fmtOs (L1.take k)) ∧ Hid (Below w1.heap.size w1 wr)) (fun _ i _ => L1.length - (intOf i).toNat)
    case atStart => exact ⟨0, Nat.zero_le _, rfl, rfl, Lib.hid (Below.refl _ _)⟩
    case round =>
      obtain ⟨k, hk, rfl, rfl, HQ⟩ := hrel
      have y0 := (HQ.out.cell (p := ⟨w.heap.size, 0, none⟩) hlt).trans x0
      have y1 := (HQ.out.cell (p := ⟨w.heap.size, 1, none⟩) hlt).trans x1
      have HBr := Lib.hid (HB.out.trans (HQ.out.mono HB.out.size))
      have hsz := HQ.out.size
      by_cases hlt1 : k < L1.length
      · obtain ⟨x, rfl, _, hc⟩ := (HA1.out.later HBr.out) k hlt1
        have hv := okV_in' (HM.out.2.1 k hlt1)
        have HS := Lib.hid (fmtOs_snoc L1 k hlt1)
        have lS := fmtOs_len HM.out k
        generalize L1.getD k 0 = z at hc hv HS
        generalize fmtOs (L1.take k) = T at lS HS
        have lz := itoa_le z (by omega) (by omega)
        have e1 : ¬ (9223372036854775807 < T.length + (Lib.itoa z).length) := by omega
        clear x0 x1
        go_wp2_with fail
        refine (specFormatInt z wr (by omega) (by omega)).mono ?_
        rintro e w2 ⟨rfl, hb2⟩
        have HQ2 := Lib.hid (HQ.out.trans (hb2.mono hsz))
        clear hb2 y0 y1 hc hsz
        go_wp2_with fail
        go_roundw
        case rel => exact ⟨k + 1, by omega, by go_num, by rw [HS.out]; exact str_app _ _, HQ2⟩
        case measure => simp [intOf]; omega
      · obtain rfl : k = L1.length := by omega
        have HS0 := Lib.hid (show fmtOs (L1.take L1.length) = fmtOs L1 by rw [List.take_length])
        have lT := fmtOs_len HM.out L1.length
        generalize fmtOs (L1.take L1.length) = T at HS0 lT
        clear x0 x1
        go_wp2_with fail
        go_loopw [3, 5] (fun t i wq => ∃ k : Nat, k ≤ L2.length ∧ i = .int .i64 k ∧ t = str (T ++ fmtXs (L2.take k)) ∧ Hid (Below wr.heap.size wr wq)) (fun _ i _ => L2.length - (intOf i).toNat)
        case atStart => exact ⟨0, Nat.zero_le _, rfl, by simp [fmtXs], Lib.hid (Below.refl _ _)⟩
        case round =>
          obtain ⟨k, hk2, rfl, rfl, HQ2⟩ := hrel
          have q1 := (HQ2.out.cell (p := ⟨w.heap.size, 1, none⟩) (Nat.lt_of_lt_of_le hlt hsz)).trans y1
          have HBq := Lib.hid (HBr.out.trans (HQ2.out.mono HBr.out.size))
          have hsq := HQ2.out.size
          by_cases hlt2 : k < L2.length
          · obtain ⟨g, o, rfl, hg, hc⟩ := HA2.out k hlt2
            obtain ⟨c0, c1', c2', c3⟩ := hc.below HBq.out hg
            obtain ⟨c, s, d, v, hsg⟩ : ∃ c s d v, sg L2 k = (c, s, d, v) := ⟨_, _, _, _, rfl⟩
            have hok := (HM.out.2.2 k hlt2).1
            have HS := Lib.hid (show T ++ fmtXs (L2.take (k + 1)) = (T ++ fmtXs (L2.take k)) ++ ([32] ++ fmtX (c, s, d, v)) by rw [fmtXs_snoc L2 k hlt2, hsg, List.append_assoc])
            rw [hsg] at c0 c1' c2' c3 hok
            simp only at c0 c1' c2' c3
            obtain ⟨ic, is, iv⟩ := sessOk_in hok
            have lc := itoa_le c (by omega) (by omega)
            have ls := itoa_le s (by omega) (by omega)
            have lv := itoa_le v (by omega) (by omega)
            have lX : (T ++ fmtXs (L2.take k)).length ≤ 300000000 := by have := fmtXs_len HM.out k; rw [List.length_append]; omega
            generalize T ++ fmtXs (L2.take k) = S at HS lX
            clear hc hsg hok y0 y1 lT HS0
            have e1 : ¬ (9223372036854775807 < S.length + 1) := by omega
            have e2 : ¬ (9223372036854775807 < S.length + 1 + (Lib.itoa c).length) := by omega
            have e3 : ¬ (9223372036854775807 < S.length + 1 + (Lib.itoa c).length + 1) := by omega
            have e4 : ¬ (9223372036854775807 < S.length + 1 + (Lib.itoa c).length + 1 + (Lib.itoa s).length) := by omega
            have e5 : ¬ (9223372036854775807 < S.length + 1 + (Lib.itoa c).length + 1 + (Lib.itoa s).length + 1) := by omega
            have e6 : ¬ (9223372036854775807 < S.length + 1 + (Lib.itoa c).length + 1 + (Lib.itoa s).length + 1 + (Lib.itoa v).length) := by omega
            cases d
            · skip
              go_wp2_with fail
              obtain ⟨wy, hwy⟩ : ∃ W, W = wr.alloc (.cells #[.int .i64 c, .int .i64 s, .bool false, .int .i64 v] 98) := ⟨_, rfl⟩
              rw [← hwy]
              obtain ⟨pb, hpb⟩ : ∃ p, p = wr.heap.size := ⟨_, rfl⟩
              rw [← hpb]
              have z0 : wy.cell? ⟨pb, 0, none⟩ = some (.int .i64 c) := by rw [hwy, hpb, World.cell?_alloc_at _ _ _ _ rfl]; rfl
              have z1 : wy.cell? ⟨pb, 1, none⟩ = some (.int .i64 s) := by rw [hwy, hpb, World.cell?_alloc_at _ _ _ _ rfl]; rfl
              have z3 : wy.cell? ⟨pb, 3, none⟩ = some (.int .i64 v) := by rw [hwy, hpb, World.cell?_alloc_at _ _ _ _ rfl]; rfl
              have hby : Below wr.heap.size wr wy := by rw [hwy]; exact (Below.refl _ _).alloc (Nat.le_refl _) _
              have hpy : pb < wy.heap.size := by rw [hwy, hpb]; simp
              have HQ3 := Lib.hid (HQ2.out.trans (hby.mono hsq))
              have hz0 : wy.heap.size ≤ wy.heap.size := Nat.le_refl _
              obtain ⟨W0, HW0⟩ : ∃ W, Hid (W = wy) := ⟨_, Lib.hid rfl⟩
              have hk0 : Below W0.heap.size W0 wy ∧ (∀ b o, b < W0.heap.size → wy.cell? ⟨b, o, none⟩ = W0.cell? ⟨b, o, none⟩) := by rw [← HW0.out]; exact kept_of (Below.refl _ _)
              rw [← HW0.out] at z0 z1 z3 hpy hz0
              clear hwy hpb hby c0 c1' c2' c3 q1
              go_region_held3 (fun w' => Below W0.heap.size W0 w' ∧ (∀ b o, b < W0.heap.size → w'.cell? ⟨b, o, none⟩ = W0.cell? ⟨b, o, none⟩)) (first | (with_reducible assumption) | ((with_reducible refine kept_drew ?_); with_reducible assumption) | ((with_reducible refine kept_next (w := ?_) ?_ ?_ hz0); rotate_left; with_reducible assumption; with_reducible assumption)) (first | (go_at_call 57; refine (specFormatInt _ _ (by omega) (by omega)).mono ?_; rintro e w3 ⟨rfl, hb3⟩))
              all_goals
                clear e1 e2 e3 e4 e5 e6 z0 z1 z3
                rename_i hk2'
                have HQ4 := Lib.hid (HQ3.out.trans (by rw [HW0.out] at hk2'; exact hk2'.1.mono HQ3.out.size))
                clear hk2' hk0
                go_wp2_with fail
                go_roundw
                case rel => exact ⟨k + 1, by omega, by go_num, by rw [HS.out]; exact congrArg Value.string (by apply ByteArray.ext; apply Array.ext'; simp [fmtX, sgn]), HQ4⟩
                case measure => simp [intOf]; omega
            · skip
              go_wp2_with fail
              obtain ⟨wy, hwy⟩ : ∃ W, W = wr.alloc (.cells #[.int .i64 c, .int .i64 s, .bool true, .int .i64 v] 98) := ⟨_, rfl⟩
              rw [← hwy]
              obtain ⟨pb, hpb⟩ : ∃ p, p = wr.heap.size := ⟨_, rfl⟩
              rw [← hpb]
              have z0 : wy.cell? ⟨pb, 0, none⟩ = some (.int .i64 c) := by rw [hwy, hpb, World.cell?_alloc_at _ _ _ _ rfl]; rfl
              have z1 : wy.cell? ⟨pb, 1, none⟩ = some (.int .i64 s) := by rw [hwy, hpb, World.cell?_alloc_at _ _ _ _ rfl]; rfl
              have z3 : wy.cell? ⟨pb, 3, none⟩ = some (.int .i64 v) := by rw [hwy, hpb, World.cell?_alloc_at _ _ _ _ rfl]; rfl
              have hby : Below wr.heap.size wr wy := by rw [hwy]; exact (Below.refl _ _).alloc (Nat.le_refl _) _
              have hpy : pb < wy.heap.size := by rw [hwy, hpb]; simp
              have HQ3 := Lib.hid (HQ2.out.trans (hby.mono hsq))
              have hz0 : wy.heap.size ≤ wy.heap.size := Nat.le_refl _
              obtain ⟨W0, HW0⟩ : ∃ W, Hid (W = wy) := ⟨_, Lib.hid rfl⟩
              have hk0 : Below W0.heap.size W0 wy ∧ (∀ b o, b < W0.heap.size → wy.cell? ⟨b, o, none⟩ = W0.cell? ⟨b, o, none⟩) := by rw [← HW0.out]; exact kept_of (Below.refl _ _)
              rw [← HW0.out] at z0 z1 z3 hpy hz0
              clear hwy hpb hby c0 c1' c2' c3 q1
              go_region_held3 (fun w' => Below W0.heap.size W0 w' ∧ (∀ b o, b < W0.heap.size → w'.cell? ⟨b, o, none⟩ = W0.cell? ⟨b, o, none⟩)) (first | (with_reducible assumption) | ((with_reducible refine kept_drew ?_); with_reducible assumption) | ((with_reducible refine kept_next (w := ?_) ?_ ?_ hz0); rotate_left; with_reducible assumption; with_reducible assumption)) (first | (go_at_call 57; refine (specFormatInt _ _ (by omega) (by omega)).mono ?_; rintro e w3 ⟨rfl, hb3⟩))
              all_goals
                clear e1 e2 e3 e4 e5 e6 z0 z1 z3
                rename_i hk2'
                have HQ4 := Lib.hid (HQ3.out.trans (by rw [HW0.out] at hk2'; exact hk2'.1.mono HQ3.out.size))
                clear hk2' hk0
                go_wp2_with fail
                go_roundw
                case rel => exact ⟨k + 1, by omega, by go_num, by rw [HS.out]; exact congrArg Value.string (by apply ByteArray.ext; apply Array.ext'; simp [fmtX, sgn]), HQ4⟩
                case measure => simp [intOf]; omega
          · obtain rfl : k = L2.length := by omega
            have HX := Lib.hid (show T ++ fmtXs (L2.take L2.length) = fmtM L1 L2 by rw [List.take_length, HF.out, HS0.out])
            generalize T ++ fmtXs (L2.take L2.length) = S at HX
            go_wp2_with fail
            go_ret
            exact ⟨by rw [← HX.out]; rfl, HBq.out⟩
  · rw [decide_eq_false hm] at jv
    have HF := Lib.hid (show fmtM L1 L2 = [] by unfold fmtM; rw [if_neg hm])
    have JV := Lib.hid jv
    clear hm jv
    go_enter Tryz.func24, Tryz.ntmps24
    go_wp2_with fail
    rw [← HW.out]
    refine JV.out.mono ?_
    rintro e w1 ⟨rfl, hb⟩
    go_wp2_with fail
    go_ret
    exact ⟨by rw [HF.out]; rfl, HB.out.trans (hb.mono HB.out.size)⟩
set_option maxRecDepth 100000 in
set_option maxHeartbeats 8000000 in
theorem implFormatSession (c s : Int) (d : Bool) (v : Int) (w : World) (hok : sessOk (c, s, d, v) = true) (hT : Tab w) :
    Calls Tryz.prog 49 #[.agg #[.int .i64 c, .int .i64 s, .bool d, .int .i64 v]] w fun e w' => e = .returned (str (fmtX (c, s, d, v))) ∧ Below w.heap.size w w' := by
  obtain ⟨ic, is, iv⟩ := sessOk_in hok
  have lc := itoa_le c (by omega) (by omega)
  have ls := itoa_le s (by omega) (by omega)
  have lv := itoa_le v (by omega) (by omega)
  have e1 : ¬ (9223372036854775807 < (Lib.itoa c).length + 1) := by omega
  have e2 : ¬ (9223372036854775807 < (Lib.itoa c).length + 1 + (Lib.itoa s).length) := by omega
  have e3 : ¬ (9223372036854775807 < (Lib.itoa c).length + 1 + (Lib.itoa s).length + 1) := by omega
  have e4 : ¬ (9223372036854775807 < (Lib.itoa c).length + 1 + (Lib.itoa s).length + 1 + (Lib.itoa v).length) := by omega
  clear hok
  cases d
  · skip
    obtain ⟨WB, hWB⟩ : ∃ W, W = w.alloc (.cells #[.int .i64 c, .int .i64 s, .bool false, .int .i64 v] 98) := ⟨_, rfl⟩
    have z0 : WB.cell? ⟨w.heap.size, 0, none⟩ = some (.int .i64 c) := by rw [hWB, World.cell?_alloc_at _ _ _ _ rfl]; rfl
    have z1 : WB.cell? ⟨w.heap.size, 1, none⟩ = some (.int .i64 s) := by rw [hWB, World.cell?_alloc_at _ _ _ _ rfl]; rfl
    have z2 : WB.cell? ⟨w.heap.size, 2, none⟩ = some (.bool false) := by rw [hWB, World.cell?_alloc_at _ _ _ _ rfl]; rfl
    have z3 : WB.cell? ⟨w.heap.size, 3, none⟩ = some (.int .i64 v) := by rw [hWB, World.cell?_alloc_at _ _ _ _ rfl]; rfl
    have hA : Below w.heap.size w WB := by rw [hWB]; exact (Below.refl _ _).alloc (Nat.le_refl _) _
    have hlt : w.heap.size < WB.heap.size := by rw [hWB]; simp
    have HWB := Lib.hid hWB
    have hz0 : WB.heap.size ≤ WB.heap.size := Nat.le_refl _
    have HT : ∀ W, (Below WB.heap.size WB W ∧ (∀ b o, b < WB.heap.size → W.cell? ⟨b, o, none⟩ = WB.cell? ⟨b, o, none⟩)) → Tab W := fun W h => hT.below (hA.trans (h.1.mono (Nat.le_of_lt hlt)))
    have hk0 : Below WB.heap.size WB WB ∧ (∀ b o, b < WB.heap.size → WB.cell? ⟨b, o, none⟩ = WB.cell? ⟨b, o, none⟩) := kept_of (Below.refl _ _)
    clear hWB
    go_enter Tryz.func49, Tryz.ntmps49
    go_wp2_with fail
    rw [← HWB.out]
    go_wp2_with fail
    obtain ⟨W0, HW0⟩ : ∃ W, Hid (W = WB) := ⟨_, Lib.hid rfl⟩
    rw [← HW0.out] at hk0 HT hz0 hlt
    have hk1 : Below W0.heap.size W0 WB ∧ (∀ b o, b < W0.heap.size → WB.cell? ⟨b, o, none⟩ = W0.cell? ⟨b, o, none⟩) := by rw [HW0.out]; exact kept_of (Below.refl _ _)
    rw [← HW0.out] at z0 z1 z2 z3
    clear hk0
    go_region_held3 (fun w' => Below W0.heap.size W0 w' ∧ (∀ b o, b < W0.heap.size → w'.cell? ⟨b, o, none⟩ = W0.cell? ⟨b, o, none⟩)) (first | (with_reducible assumption) | ((with_reducible refine kept_drew ?_); with_reducible assumption) | ((with_reducible refine kept_next (w := ?_) ?_ ?_ hz0); rotate_left; with_reducible assumption; with_reducible assumption)) (first | (go_at_call 32; refine (implFormatInt _ _ (by omega) (by omega) (HT _ (by with_reducible assumption))).mono ?_; rintro e w3 ⟨rfl, hb3⟩))
    all_goals
      clear e1 e2 e3 e4 z0 z1 z2 z3
      rename_i hk2
      have HQ := Lib.hid (hA.trans (by rw [HW0.out] at hk2; exact hk2.1.mono hA.size))
      clear hk2 hk1 HT
      go_wp2_with fail
      go_ret
      exact ⟨congrArg (fun x => Ending.returned (Value.string x)) (by apply ByteArray.ext; apply Array.ext'; simp [fmtX, sgn]), HQ.out⟩
  · skip
    obtain ⟨WB, hWB⟩ : ∃ W, W = w.alloc (.cells #[.int .i64 c, .int .i64 s, .bool true, .int .i64 v] 98) := ⟨_, rfl⟩
    have z0 : WB.cell? ⟨w.heap.size, 0, none⟩ = some (.int .i64 c) := by rw [hWB, World.cell?_alloc_at _ _ _ _ rfl]; rfl
    have z1 : WB.cell? ⟨w.heap.size, 1, none⟩ = some (.int .i64 s) := by rw [hWB, World.cell?_alloc_at _ _ _ _ rfl]; rfl
    have z2 : WB.cell? ⟨w.heap.size, 2, none⟩ = some (.bool true) := by rw [hWB, World.cell?_alloc_at _ _ _ _ rfl]; rfl
    have z3 : WB.cell? ⟨w.heap.size, 3, none⟩ = some (.int .i64 v) := by rw [hWB, World.cell?_alloc_at _ _ _ _ rfl]; rfl
    have hA : Below w.heap.size w WB := by rw [hWB]; exact (Below.refl _ _).alloc (Nat.le_refl _) _
    have hlt : w.heap.size < WB.heap.size := by rw [hWB]; simp
    have HWB := Lib.hid hWB
    have hz0 : WB.heap.size ≤ WB.heap.size := Nat.le_refl _
    have HT : ∀ W, (Below WB.heap.size WB W ∧ (∀ b o, b < WB.heap.size → W.cell? ⟨b, o, none⟩ = WB.cell? ⟨b, o, none⟩)) → Tab W := fun W h => hT.below (hA.trans (h.1.mono (Nat.le_of_lt hlt)))
    have hk0 : Below WB.heap.size WB WB ∧ (∀ b o, b < WB.heap.size → WB.cell? ⟨b, o, none⟩ = WB.cell? ⟨b, o, none⟩) := kept_of (Below.refl _ _)
    clear hWB
    go_enter Tryz.func49, Tryz.ntmps49
    go_wp2_with fail
    rw [← HWB.out]
    go_wp2_with fail
    obtain ⟨W0, HW0⟩ : ∃ W, Hid (W = WB) := ⟨_, Lib.hid rfl⟩
    rw [← HW0.out] at hk0 HT hz0 hlt
    have hk1 : Below W0.heap.size W0 WB ∧ (∀ b o, b < W0.heap.size → WB.cell? ⟨b, o, none⟩ = W0.cell? ⟨b, o, none⟩) := by rw [HW0.out]; exact kept_of (Below.refl _ _)
    rw [← HW0.out] at z0 z1 z2 z3
    clear hk0
    go_region_held3 (fun w' => Below W0.heap.size W0 w' ∧ (∀ b o, b < W0.heap.size → w'.cell? ⟨b, o, none⟩ = W0.cell? ⟨b, o, none⟩)) (first | (with_reducible assumption) | ((with_reducible refine kept_drew ?_); with_reducible assumption) | ((with_reducible refine kept_next (w := ?_) ?_ ?_ hz0); rotate_left; with_reducible assumption; with_reducible assumption)) (first | (go_at_call 32; refine (implFormatInt _ _ (by omega) (by omega) (HT _ (by with_reducible assumption))).mono ?_; rintro e w3 ⟨rfl, hb3⟩))
    all_goals
      clear e1 e2 e3 e4 z0 z1 z2 z3
      rename_i hk2
      have HQ := Lib.hid (hA.trans (by rw [HW0.out] at hk2; exact hk2.1.mono hA.size))
      clear hk2 hk1 HT
      go_wp2_with fail
      go_ret
      exact ⟨congrArg (fun x => Ending.returned (Value.string x)) (by apply ByteArray.ext; apply Array.ext'; simp [fmtX, sgn]), HQ.out⟩
theorem IsB.later {B b : Nat} {bs : List Value} {w w' : World} (h : IsB B b bs w) (hb : Below w.heap.size w w') : IsB B b bs w' := by
  have one : ∀ p, Lib.BuilderAt 90 5 B b p bs w → Lib.BuilderAt 90 5 B b p bs w' := by
    rintro p ⟨h1, v, h2, h3, h4⟩
    exact ⟨h1, v, (hb.block b (Array.getElem?_eq_some_iff.1 h2).1).trans h2, ⟨h3.1, h3.2.imp id (fun ⟨g, c, cur, hv, hg, hh, r⟩ => ⟨g, c, cur, hv, hg, (hb.block g (Array.getElem?_eq_some_iff.1 hh).1).trans hh, r⟩)⟩, h4⟩
  exact h.imp (one _) (one _)
theorem byteCells_app (a b : List UInt8) : Lib.byteCells a ++ Lib.byteCells b = Lib.byteCells (a ++ b) := by simp [Lib.byteCells]
theorem byteCells_len (a : List UInt8) : (Lib.byteCells a).length = a.length := by simp [Lib.byteCells]
theorem isB_new (w : World) : IsB w.heap.size w.heap.size (Lib.byteCells []) (w.alloc (.cells #[.pointer none, .slice none 0 0] 90)) :=
  .inl ⟨Nat.le_refl _, .slice none 0 0, heap_alloc_new w _, World.ownsRow_nil _ _ _ _, by simp [Value.ownBlock]⟩
set_option maxRecDepth 100000 in
set_option maxHeartbeats 8000000 in
theorem implFormatMachineA (a1 : Option Addr) (c1 : Nat) (L1 : List Int) (a2 : Option Addr) (c2 : Nat) (L2 : List Sess) (w : World) (h1 : L1.length ≤ 4194304) (h2 : L2.length ≤ 4194304) (ha1 : At w a1 L1) (ha2 : AtS w a2 L2) (hT : Tab w) :
    Calls Tryz.prog 15 #[.agg #[.slice a1 L1.length c1, .slice a2 L2.length c2]] w fun e w' => e = .returned (str (fmtM L1 L2)) ∧ Below w.heap.size w w' := by
  obtain ⟨WB, hWB⟩ : ∃ W, W = w.alloc (.cells #[.slice a1 L1.length c1, .slice a2 L2.length c2] 44) := ⟨_, rfl⟩
  have x0 : WB.cell? ⟨w.heap.size, 0, none⟩ = some (.slice a1 L1.length c1) := by rw [hWB, World.cell?_alloc_at _ _ _ _ rfl]; rfl
  have x1 : WB.cell? ⟨w.heap.size, 1, none⟩ = some (.slice a2 L2.length c2) := by rw [hWB, World.cell?_alloc_at _ _ _ _ rfl]; rfl
  have HB := Lib.hid (show Below w.heap.size w WB by rw [hWB]; exact (Below.refl _ _).alloc (Nat.le_refl _) _)
  have hlt : w.heap.size < WB.heap.size := by rw [hWB]; simp
  have HW := Lib.hid hWB
  clear hWB
  have jv := implIsValidMachineA a1 c1 L1 a2 c2 L2 WB h1 h2 (ha1.later HB.out) (ha2.later HB.out)
  have HA1 := Lib.hid ha1
  have HA2 := Lib.hid ha2
  clear ha1 ha2
  by_cases hm : MOk L1 L2
  · rw [decide_eq_true hm] at jv
    have HM := Lib.hid hm
    have HF := Lib.hid (show fmtM L1 L2 = fmtOs L1 ++ fmtXs L2 by unfold fmtM; rw [if_pos hm])
    have JV := Lib.hid jv
    clear hm jv
    go_enter Tryz.func15, Tryz.ntmps15
    go_wp2_with fail
    rw [← HW.out]
    refine JV.out.mono ?_
    rintro e w1 ⟨rfl, hb⟩
    replace x0 := (hb.cell (p := ⟨w.heap.size, 0, none⟩) hlt).trans x0
    replace x1 := (hb.cell (p := ⟨w.heap.size, 1, none⟩) hlt).trans x1
    replace hlt := Nat.lt_of_lt_of_le hlt hb.size
    replace HB := Lib.hid (HB.out.trans (hb.mono HB.out.size))
    clear hb JV HW
    have hnw : Below w1.heap.size w1 (w1.alloc (.cells #[.pointer none, .slice none 0 0] 90)) := (Below.refl _ _).alloc (Nat.le_refl _) _
    have HI := Lib.hid (isB_new w1)
    have HN := Lib.hid hnw
    have xx1 := (hnw.cell (p := ⟨w.heap.size, 1, none⟩) hlt).trans x1
    have xx0 := (hnw.cell (p := ⟨w.heap.size, 0, none⟩) hlt).trans x0
    clear hnw x0 x1
    go_wp2_with fail
    go_loopw [14] (fun i wr => ∃ k : Nat, k ≤ L1.length ∧ i = .int .i64 k ∧ Hid (IsB w1.heap.size w1.heap.size (Lib.byteCells (fmtOs (L1.take k))) wr) ∧ Hid (Below w1.heap.size w1 wr)) (fun i _ => L1.length - (intOf i).toNat)
    case atStart => exact ⟨0, Nat.zero_le _, rfl, Lib.hid (by have := HI.out; simpa [fmtOs] using this), HN⟩
    case round =>
      obtain ⟨k, hk, rfl, HI1, HQ⟩ := hrel
      have hsz := HQ.out.size
      have HBr := Lib.hid (HB.out.trans (HQ.out.mono HB.out.size))
      by_cases hlt1 : k < L1.length
      · obtain ⟨x, rfl, _, hc⟩ := (HA1.out.later HBr.out) k hlt1
        have hv := okV_in' (HM.out.2.1 k hlt1)
        have HS := Lib.hid (fmtOs_snoc L1 k hlt1)
        have lS := fmtOs_len HM.out k
        generalize L1.getD k 0 = z at hc hv HS
        generalize fmtOs (L1.take k) = T at lS HS HI1
        have lz := itoa_le z (by omega) (by omega)
        clear xx0 xx1
        go_wp2_with fail
        refine (implFormatInt z wr (by omega) (by omega) (hT.below HBr.out)).mono ?_
        rintro e w2 ⟨rfl, hb2⟩
        have HI2 := Lib.hid (IsB.later HI1.out hb2)
        have HQ2 := Lib.hid (HQ.out.trans (hb2.mono hsz))
        clear hb2 hc hsz
        go_wp2_with fail
        refine (writeString w1.heap.size w1.heap.size _ ⟨(Lib.itoa z).toArray⟩ w2 HI2.out (by rw [byteCells_len]; simp [ByteArray.size]; omega) HQ2.out.size).mono ?_
        rintro e w3 ⟨rfl, hI3, hb3⟩
        rw [Lib.strCells_toArray, byteCells_app, ← HS.out] at hI3
        have HI3 := Lib.hid hI3
        have HQ3 := Lib.hid (HQ2.out.trans hb3)
        clear hI3 hb3
        go_wp2_with fail
        go_roundw
        case rel => exact ⟨k + 1, by omega, by go_num, HI3, HQ3⟩
        case measure => simp [intOf]; omega
      · obtain rfl : k = L1.length := by omega
        have y1 := (HQ.out.cell (p := ⟨w.heap.size, 1, none⟩) hlt).trans ((HN.out.cell (p := ⟨w.heap.size, 1, none⟩) hlt).symm.trans xx1)
        have HS0 := Lib.hid (show fmtOs (L1.take L1.length) = fmtOs L1 by rw [List.take_length])
        have lT := fmtOs_len HM.out L1.length
        generalize fmtOs (L1.take L1.length) = T at HS0 lT HI1
        clear xx0 xx1
        go_wp2_with fail
        go_loopw [25] (fun i wq => ∃ k : Nat, k ≤ L2.length ∧ i = .int .i64 k ∧ Hid (IsB w1.heap.size w1.heap.size (Lib.byteCells (T ++ fmtXs (L2.take k))) wq) ∧ Hid (Below w1.heap.size w1 wq)) (fun i _ => L2.length - (intOf i).toNat)
        case atStart => exact ⟨0, Nat.zero_le _, rfl, Lib.hid (by have := HI1.out; simpa [fmtXs] using this), HQ⟩
        case round =>
          clear y1 HI1 HQ hsz HBr
          obtain ⟨k, hk2, rfl, HI1, HQ⟩ := hrel
          have hsz := HQ.out.size
          have HBr := Lib.hid (HB.out.trans (HQ.out.mono HB.out.size))
          by_cases hlt2 : k < L2.length
          · obtain ⟨g, o, rfl, hg, hc⟩ := HA2.out k hlt2
            obtain ⟨c0, c1', c2', c3⟩ := hc.below HBr.out hg
            obtain ⟨c, s, d, v, hsg⟩ : ∃ c s d v, sg L2 k = (c, s, d, v) := ⟨_, _, _, _, rfl⟩
            have hok := (HM.out.2.2 k hlt2).1
            have HS := Lib.hid (show T ++ fmtXs (L2.take (k + 1)) = (T ++ fmtXs (L2.take k)) ++ ([32] ++ fmtX (c, s, d, v)) by rw [fmtXs_snoc L2 k hlt2, hsg, List.append_assoc])
            rw [hsg] at c0 c1' c2' c3 hok
            simp only at c0 c1' c2' c3
            obtain ⟨ic, is, iv⟩ := sessOk_in hok
            have lX : (T ++ fmtXs (L2.take k)).length ≤ 300000000 := by have := fmtXs_len HM.out k; rw [List.length_append]; omega
            have lF : (fmtX (c, s, d, v)).length ≤ 65 := by
              have lc := itoa_le c (by omega) (by omega)
              have ls := itoa_le s (by omega) (by omega)
              have lv := itoa_le v (by omega) (by omega)
              simp [fmtX]; omega
            generalize T ++ fmtXs (L2.take k) = S at HS lX HI1
            have HOK := Lib.hid hok
            have JF := fun W hW => Lib.hid (implFormatSession c s d v W HOK.out hW)
            generalize fmtX (c, s, d, v) = X at JF lF HS
            have e1 : ¬ (9223372036854775807 < 1 + X.length) := by omega
            clear hc hsg hok
            go_wp2_with fail
            refine ((JF _ (hT.below (HBr.out.alloc HBr.out.size _))).out).mono ?_
            rintro e w2 ⟨rfl, hb2⟩
            have hal : Below wr.heap.size wr w2 := below1 hb2 (by simp)
            have HI2 := Lib.hid (IsB.later HI1.out hal)
            have HQ2 := Lib.hid (HQ.out.trans (hal.mono hsz))
            clear hb2 hal c0 c1' c2' c3 hsz
            go_wp2_with fail
            have hstr : Value.string ((⟨#[32]⟩ : ByteArray) ++ (⟨X.toArray⟩ : ByteArray)) = str ([32] ++ X) := str_app [32] X
            rw [hstr]
            clear hstr
            have hlen : (Lib.byteCells S).length + (⟨([32] ++ X).toArray⟩ : ByteArray).size ≤ 140737488355328 := by rw [byteCells_len]; show S.length + ([32] ++ X).toArray.size ≤ _; rw [List.size_toArray, List.length_append]; simp only [List.length_cons, List.length_nil]; omega
            refine (writeString w1.heap.size w1.heap.size _ _ w2 HI2.out hlen HQ2.out.size).mono ?_
            clear hlen
            rintro e w3 ⟨rfl, hI3, hb3⟩
            rw [Lib.strCells_toArray, byteCells_app, ← HS.out] at hI3
            have HI3 := Lib.hid hI3
            have HQ3 := Lib.hid (HQ2.out.trans hb3)
            clear hI3 hb3 JF
            go_wp2_with fail
            go_roundw
            case rel => exact ⟨k + 1, by omega, by go_num, HI3, HQ3⟩
            case measure => simp [intOf]; omega
          · obtain rfl : k = L2.length := by omega
            have HX := Lib.hid (show T ++ fmtXs (L2.take L2.length) = fmtM L1 L2 by rw [List.take_length, HF.out, HS0.out])
            rw [HX.out] at HI1
            go_wp2_with fail
            refine (Tryz.Builder_String_any w1.heap.size w1.heap.size (fmtM L1 L2) wr HI1.out hsz).mono ?_
            rintro e w4 ⟨rfl, hb4⟩
            go_wp2_with fail
            go_ret
            exact ⟨rfl, HBr.out.trans (hb4.mono HB.out.size)⟩
  · rw [decide_eq_false hm] at jv
    have HF := Lib.hid (show fmtM L1 L2 = [] by unfold fmtM; rw [if_neg hm])
    have JV := Lib.hid jv
    clear hm jv
    go_enter Tryz.func15, Tryz.ntmps15
    go_wp2_with fail
    rw [← HW.out]
    refine JV.out.mono ?_
    rintro e w1 ⟨rfl, hb⟩
    go_wp2_with fail
    go_ret
    exact ⟨by rw [HF.out]; rfl, HB.out.trans (hb.mono HB.out.size)⟩
theorem specFormatMachine (b1 b2 : Nat) (v1 v2 : Value) (L1 : List Int) (L2 : List Sess) (w : World) (h1 : L1.length ≤ 4194304) (h2 : L2.length ≤ 4194304) (o1 : OwnI b1 w v1 L1) (o2 : OwnS b2 w v2 L2) :
    Calls Tryz.prog 24 #[.agg #[v1, v2]] w fun e w' => e = .returned (.string ⟨(fmtM L1 L2).toArray⟩) ∧ Below w.heap.size w w' := by
  obtain ⟨a1, c1, rfl, _, _, t1, _⟩ := o1.form
  obtain ⟨a2, c2, rfl, _, _, t2, _⟩ := o2.form
  exact specFormatMachineA a1 c1 L1 a2 c2 L2 w h1 h2 t1 t2
theorem implFormatMachine (b1 b2 : Nat) (v1 v2 : Value) (L1 : List Int) (L2 : List Sess) (w : World) (h1 : L1.length ≤ 4194304) (h2 : L2.length ≤ 4194304) (o1 : OwnI b1 w v1 L1) (o2 : OwnS b2 w v2 L2) (hT : Tab w) :
    Calls Tryz.prog 15 #[.agg #[v1, v2]] w fun e w' => e = .returned (.string ⟨(fmtM L1 L2).toArray⟩) ∧ Below w.heap.size w w' := by
  obtain ⟨a1, c1, rfl, _, _, t1, _⟩ := o1.form
  obtain ⟨a2, c2, rfl, _, _, t2, _⟩ := o2.form
  exact implFormatMachineA a1 c1 L1 a2 c2 L2 w h1 h2 t1 t2 hT
end Go.Proofs.YtgjebjoaemeeoaaGreatDoor.kit
namespace Go.Proofs.YtgjebjoaemeeoaaGreatDoor.kit
set_option linter.unusedVariables false
set_option linter.unusedSimpArgs false

def digV (b : UInt8) : Int := (b.toNat : Int) - 48
def digB (v : Int) : UInt8 := UInt8.ofNat (48 + v.toNat)
theorem ten {v : Int} (h : 0 ≤ v ∧ v ≤ 9) : v = 0 ∨ v = 1 ∨ v = 2 ∨ v = 3 ∨ v = 4 ∨ v = 5 ∨ v = 6 ∨ v = 7 ∨ v = 8 ∨ v = 9 := by omega
theorem itoa_dig {v : Int} (h : 0 ≤ v ∧ v ≤ 9) : Lib.itoa v = [digB v] := by
  unfold Lib.itoa; rw [if_neg (by omega)]; exact decDigits_small (by omega)
theorem digV_digB {v : Int} (h : 0 ≤ v ∧ v ≤ 9) : digV (digB v) = v := by
  rcases ten h with rfl | rfl | rfl | rfl | rfl | rfl | rfl | rfl | rfl | rfl <;> rfl
theorem isDig_digB {v : Int} (h : 0 ≤ v ∧ v ≤ 9) : isDig (digB v) = true := by
  rcases ten h with rfl | rfl | rfl | rfl | rfl | rfl | rfl | rfl | rfl | rfl <;> rfl
theorem digB_digV {b : UInt8} (h : isDig b = true) : digB (digV b) = b := by
  have := of_decide_eq_true h
  unfold digB digV
  rw [show 48 + ((b.toNat : Int) - 48).toNat = b.toNat by omega]
  simp
theorem isDig_in {b : UInt8} (h : isDig b = true) : 0 ≤ digV b ∧ digV b ≤ 9 := by
  have := of_decide_eq_true h
  unfold digV
  omega
/-- the objects, read loosely -/
def looseO (p : List UInt8) : List Int := (p.take 9).map digV
theorem three {α : Type} {L : List α} (h : L.length = 3) : ∃ a b c, L = [a, b, c] := by
  match L, h with
  | [a, b, c], _ => exact ⟨a, b, c, rfl⟩
theorem objs_fmt {L1 : List Int} {L2 : List Sess} (h : MOk L1 L2) : (fmtOs L1).length = 3 ∧ looseO (fmtOs L1) = L1 ∧ (∀ b ∈ fmtOs L1, isDig b = true) ∧ (fmtOs L1).map digV = L1 := by
  obtain ⟨a, b, c, rfl⟩ := three h.1
  have ha := okV_in' (h.2.1 0 (by simp))
  have hb := okV_in' (h.2.1 1 (by simp))
  have hc := okV_in' (h.2.1 2 (by simp))
  simp only [List.getD_cons_zero, List.getD_cons_succ] at ha hb hc
  have e : fmtOs [a, b, c] = [digB a, digB b, digB c] := by simp [fmtOs, itoa_dig ha, itoa_dig hb, itoa_dig hc]
  rw [e]
  refine ⟨rfl, ?_, ?_, ?_⟩
  · simp [looseO, digV_digB ha, digV_digB hb, digV_digB hc]
  · intro x hx
    simp only [List.mem_cons, List.not_mem_nil, or_false] at hx
    rcases hx with rfl | rfl | rfl
    · exact isDig_digB ha
    · exact isDig_digB hb
    · exact isDig_digB hc
  · simp [digV_digB ha, digV_digB hb, digV_digB hc]
theorem objs_sound {p : List UInt8} (h3 : p.length = 3) (hd : ∀ b ∈ p, isDig b = true) : fmtOs (p.map digV) = p := by
  obtain ⟨a, b, c, rfl⟩ := three h3
  have ha := hd a (by simp)
  have hb := hd b (by simp)
  have hc := hd c (by simp)
  simp [fmtOs, itoa_dig (isDig_in ha), itoa_dig (isDig_in hb), itoa_dig (isDig_in hc), digB_digV ha, digB_digV hb, digB_digV hc]
theorem isDig_no {p : List UInt8} (hd : ∀ b ∈ p, isDig b = true) : (32 : UInt8) ∉ p := fun h => by have := hd 32 h; revert this; decide
/-- what the program's reader of objects may answer -/
def ObjI (p : List UInt8) (O : List Int) : Prop := (p.length = 3 ∧ (∀ b ∈ p, isDig b = true) ∧ O = p.map digV) ∨ (¬ (p.length = 3 ∧ ∀ b ∈ p, isDig b = true) ∧ ∀ L2, ¬ MOk O L2)
/-- a session, read loosely -/
def looseX (p : List UInt8) : Sess :=
  if p.length < 5 ∨ p.getD 1 0 ≠ 46 then (-1, 0, false, 0) else (digV (p.getD 0 0), numL ((p.drop 2).take (p.length - 4)), p.getD (p.length - 2) 0 == 43, digV (p.getD (p.length - 1) 0))
theorem sgn_back (d : Bool) : (sgn d == 43) = d := by cases d <;> rfl
theorem itoa_pos {n : Int} (h0 : 0 ≤ n) (h1 : n < 1000000000) : 0 < (Lib.itoa n).length := by
  rcases Nat.eq_zero_or_pos (Lib.itoa n).length with h | h
  · have e := List.eq_nil_of_length_eq_zero h
    have := (par_itoa h0 h1).1
    rw [e, par_nil] at this
    cases this
  · exact h
theorem fmtX_form {x : Sess} (h : sessOk x = true) : fmtX x = digB x.1 :: 46 :: (Lib.itoa x.2.1 ++ [sgn x.2.2.1, digB x.2.2.2]) := by
  obtain ⟨c, s, d, v⟩ := x
  obtain ⟨h1, h2, h3⟩ := sessOk_in h
  simp only [fmtX, itoa_dig (show 0 ≤ c ∧ c ≤ 9 by omega), itoa_dig h3]
  simp
theorem looseX_fmt {x : Sess} (h : sessOk x = true) : looseX (fmtX x) = x := by
  have hf := fmtX_form h
  obtain ⟨c, s, d, v⟩ := x
  obtain ⟨h1, h2, h3⟩ := sessOk_in h
  simp only at hf
  have hp := itoa_pos (n := s) (by omega) (by omega)
  have hn := num_itoa (n := s) (by omega) (by omega)
  rw [hf]
  generalize Lib.itoa s = q at *
  have hl : (digB c :: 46 :: (q ++ [sgn d, digB v])).length = q.length + 4 := by simp
  unfold looseX
  rw [hl, if_neg (by simp; omega)]
  have e1 : ((digB c :: 46 :: (q ++ [sgn d, digB v])).drop 2).take (q.length + 4 - 4) = q := by simp
  have e2 : (digB c :: 46 :: (q ++ [sgn d, digB v])).getD (q.length + 4 - 2) 0 = sgn d := by
    rw [show q.length + 4 - 2 = q.length + 1 + 1 by omega, List.getD_cons_succ, List.getD_cons_succ]
    simp [List.getD]
  have e3 : (digB c :: 46 :: (q ++ [sgn d, digB v])).getD (q.length + 4 - 1) 0 = digB v := by
    rw [show q.length + 4 - 1 = (q.length + 1) + 1 + 1 by omega, List.getD_cons_succ, List.getD_cons_succ]
    simp [List.getD]
  rw [e1, e2, e3, hn, sgn_back, List.getD_cons_zero, digV_digB (by omega), digV_digB h3]
/-- a session, read strictly -/
def restX (p : List UInt8) : List UInt8 := (Lib.cut p [46]).2.1
def signX (p : List UInt8) : Int := Lib.indexAny (restX p) [43, 45]
def pxOk (p : List UInt8) : Bool := decide (0 ≤ signX p) && (parOk (Lib.cut p [46]).1 && (parOk ((restX p).take (signX p).toNat) && parOk ((restX p).drop ((signX p).toNat + 1))))
def px (p : List UInt8) : Sess := (parN (Lib.cut p [46]).1, parN ((restX p).take (signX p).toNat), (restX p).getD (signX p).toNat 0 == 43, parN ((restX p).drop ((signX p).toNat + 1)))
theorem any_app : ∀ {q r : List UInt8} {b : UInt8}, (43 : UInt8) ∉ q → (45 : UInt8) ∉ q → (b = 43 ∨ b = 45) → Lib.indexAny (q ++ b :: r) [43, 45] = (q.length : Int)
  | [], r, b, _, _, hb => by
    rcases hb with rfl | rfl <;> rfl
  | a :: q, r, b, h1, h2, hb => by
    have ih := any_app (r := r) (fun h => h1 (List.mem_cons_of_mem _ h)) (fun h => h2 (List.mem_cons_of_mem _ h)) hb
    have n1 : a ≠ 43 := fun e => h1 (by simp [e])
    have n2 : a ≠ 45 := fun e => h2 (by simp [e])
    have hc : ([43, 45] : List UInt8).contains a = false := by simp [n1, n2]
    rw [List.cons_append, Lib.indexAny, hc, ih]
    have : ((q.length : Int) == -1) = false := by rw [beq_eq_false_iff_ne]; omega
    simp [this]
theorem any_at : ∀ {l : List UInt8}, 0 ≤ Lib.indexAny l [43, 45] → ∃ k : Nat, Lib.indexAny l [43, 45] = (k : Int) ∧ k < l.length ∧ (l.getD k 0 = 43 ∨ l.getD k 0 = 45)
  | [], h => by simp [Lib.indexAny] at h
  | a :: l, h => by
    rw [Lib.indexAny] at h ⊢
    by_cases hc : ([43, 45] : List UInt8).contains a = true
    · rw [if_pos hc]
      refine ⟨0, rfl, by simp, ?_⟩
      simpa using hc
    · rw [if_neg hc] at h ⊢
      by_cases hm : (Lib.indexAny l [43, 45] == -1) = true
      · rw [if_pos hm] at h; omega
      · rw [if_neg hm] at h ⊢
        have hg := Lib.indexAny_ge [43, 45] l
        have hne : Lib.indexAny l [43, 45] ≠ -1 := by simpa using hm
        obtain ⟨k, e, hk, hb⟩ := any_at (l := l) (by omega)
        exact ⟨k + 1, by rw [e]; omega, by simp; omega, by simpa using hb⟩
theorem px_fmt {x : Sess} (h : sessOk x = true) : pxOk (fmtX x) = true ∧ px (fmtX x) = x := by
  obtain ⟨c, s, d, v⟩ := x
  obtain ⟨h1, h2, h3⟩ := sessOk_in h
  have e : Lib.cut (fmtX (c, s, d, v)) [46] = (Lib.itoa c, Lib.itoa s ++ sgn d :: Lib.itoa v, true) := by
    unfold fmtX
    simp only [List.singleton_append]
    rw [cut_app (itoa_no (by omega) (by decide))]
  have hk : Lib.indexAny (Lib.itoa s ++ sgn d :: Lib.itoa v) [43, 45] = ((Lib.itoa s).length : Int) := any_app (itoa_no (by omega) (by decide)) (itoa_no (by omega) (by decide)) (by cases d <;> simp [sgn])
  have pc := par_itoa (n := c) (by omega) (by omega)
  have ps := par_itoa (n := s) (by omega) (by omega)
  have pv := par_itoa (n := v) (by omega) (by omega)
  unfold pxOk px signX restX
  rw [e]
  simp only
  rw [hk, Int.toNat_natCast]
  have t1 : (Lib.itoa s ++ sgn d :: Lib.itoa v).take (Lib.itoa s).length = Lib.itoa s := by simp
  have t2 : (Lib.itoa s ++ sgn d :: Lib.itoa v).drop ((Lib.itoa s).length + 1) = Lib.itoa v := by
    rw [← List.drop_drop]
    simp
  have t3 : (Lib.itoa s ++ sgn d :: Lib.itoa v).getD (Lib.itoa s).length 0 = sgn d := by simp [List.getD]
  rw [t1, t2, t3, pc.1, pc.2, ps.1, ps.2, pv.1, pv.2, sgn_back]
  refine ⟨by simp, rfl⟩
theorem px_sound {p : List UInt8} (h : pxOk p = true) : fmtX (px p) = p := by
  unfold pxOk at h
  simp only [Bool.and_eq_true, decide_eq_true_eq] at h
  obtain ⟨h0, hc, hs, hv⟩ := h
  obtain ⟨k, hk, hkl, hb⟩ := any_at h0
  have hk' : (signX p).toNat = k := by unfold signX; rw [hk]; simp
  rw [hk'] at hs hv
  unfold fmtX px
  simp only
  rw [hk', itoa_par hc, itoa_par hs, itoa_par hv]
  have hsg : sgn ((restX p).getD k 0 == 43) = (restX p).getD k 0 := by
    rcases hb with e | e <;> rw [e] <;> rfl
  rw [hsg]
  have hr : (restX p).take k ++ ([(restX p).getD k 0] ++ (restX p).drop (k + 1)) = restX p := by
    have e2 : (restX p).getD k 0 = (restX p)[k] := by simp [List.getD, hkl]
    rw [e2, List.singleton_append, List.getElem_cons_drop, List.take_append_drop]
  rw [hr]
  rcases first_x 46 p with hn | ⟨a, r, ha, rfl⟩
  · exfalso
    have e : restX p = [] := by unfold restX; rw [cut_none hn]
    rw [e] at hkl
    simp at hkl
  · have e : Lib.cut (a ++ 46 :: r) [46] = (a, r, true) := cut_app ha
    unfold restX
    rw [e]
    simp
theorem fmtX_no {x : Sess} (h : sessOk x = true) : (32 : UInt8) ∉ fmtX x := by
  obtain ⟨c, s, d, v⟩ := x
  obtain ⟨h1, h2, h3⟩ := sessOk_in h
  unfold fmtX
  simp only [List.mem_append, List.mem_cons, List.not_mem_nil, or_false, not_or]
  refine ⟨itoa_no (by omega) (by decide), by decide, itoa_no (by omega) (by decide), ?_, itoa_no (by omega) (by decide)⟩
  cases d <;> decide
/-- the program's words -/
def wsI (l : List UInt8) : List (List UInt8) := Lib.splitK [32] 0 3 l
/-- what the specification reads -/
def looseOs (s : List UInt8) : List Int := looseO ((cuts 32 s).getD 0 [])
def looseXs (s : List UInt8) : List Sess := (((cuts 32 s).drop 1).take 8).map looseX
def okPM (s : List UInt8) : Prop := s ≠ [] ∧ fmtM (looseOs s) (looseXs s) = s
instance (s : List UInt8) : Decidable (okPM s) := inferInstanceAs (Decidable (_ ∧ _))
/-- ParseMachine's results -/
def parMok (s : List UInt8) : Bool := decide (okPM s)
def parMO (s : List UInt8) : List Int := if okPM s then looseOs s else []
def parMX (s : List UInt8) : List Sess := if okPM s then looseXs s else []
theorem looseOs_len (s : List UInt8) : (looseOs s).length ≤ 9 := by unfold looseOs looseO; rw [List.length_map, List.length_take]; omega
theorem looseXs_len (s : List UInt8) : (looseXs s).length ≤ 8 := by unfold looseXs; rw [List.length_map, List.length_take]; omega
theorem parMO_len (s : List UInt8) : (parMO s).length ≤ 4194304 := by
  have := looseOs_len s
  unfold parMO
  split
  · omega
  · simp
theorem parMX_len (s : List UInt8) : (parMX s).length ≤ 4194304 := by
  have := looseXs_len s
  unfold parMX
  split
  · omega
  · simp
theorem joinX_flat (x : UInt8) : ∀ (l : List (List UInt8)) (a : List UInt8), joinX x (a :: l) = a ++ l.flatMap fun p => x :: p
  | [], a => by simp [joinX]
  | b :: l, a => by
    have e : joinX x (a :: b :: l) = a ++ x :: joinX x (b :: l) := by simp [joinX]
    rw [e, joinX_flat x l b]
    simp
theorem fmtM_join {L1 : List Int} {L2 : List Sess} (h : MOk L1 L2) : fmtM L1 L2 = joinX 32 (fmtOs L1 :: L2.map fmtX) := by
  unfold fmtM
  rw [if_pos h, joinX_flat]
  unfold fmtXs
  rw [List.flatMap_map]
  rfl
theorem MOk.client {L1 : List Int} {L2 : List Sess} (h : MOk L1 L2) : ∀ j : Nat, j < L2.length → (j : Int) ≤ (sg L2 j).1 := by
  intro j
  induction j with
  | zero =>
    intro hj
    have := (h.2.2 0 hj).1
    unfold sessOk at this
    simp only [Bool.and_eq_true] at this
    have := okC_in' this.1
    simp; omega
  | succ j ih =>
    intro hj
    have h1 := ih (by omega)
    have h2 := (h.2.2 (j + 1) hj).2 (by omega)
    rw [Nat.add_sub_cancel] at h2
    omega
theorem MOk.len {L1 : List Int} {L2 : List Sess} (h : MOk L1 L2) : L2.length ≤ 3 := by
  rcases Nat.lt_or_ge 3 L2.length with hl | hl
  · have h1 := h.client 3 hl
    have := (h.2.2 3 hl).1
    unfold sessOk at this
    simp only [Bool.and_eq_true] at this
    have := okC_in' this.1
    omega
  · exact hl
theorem MOk.mem {L1 : List Int} {L2 : List Sess} (h : MOk L1 L2) {x : Sess} (hx : x ∈ L2) : sessOk x = true := by
  obtain ⟨j, hj, rfl⟩ := List.mem_iff_getElem.1 hx
  have := (h.2.2 j hj).1
  rwa [sg_eq hj] at this
theorem machine_yes {s : List UInt8} {O : List Int} (hO : ObjI ((wsI s).getD 0 []) O) (h1 : ∀ p ∈ (wsI s).drop 1, pxOk p = true) (h2 : MOk O (((wsI s).drop 1).map px)) :
    parMok s = true ∧ parMO s = O ∧ parMX s = ((wsI s).drop 1).map px := by
  have hj := join_split 32 3 s
  have hp := split_pos 32 3 s
  have hw : wsI s = Lib.splitK [32] 0 3 s := rfl
  rw [← hw] at hj hp
  rcases hO with ⟨h3, hd, hE⟩ | ⟨_, hno⟩
  case inr => exact absurd h2 (hno _)
  have hs0 : s ≠ [] := fun e => by
    have e2 : wsI s = [[]] := by rw [hw, e]; exact split_none (by simp) 3
    rw [e2] at h3
    simp at h3
  clear hw
  match hps : wsI s, hp with
  | p0 :: rest, _ =>
    rw [hps] at h1 h2 hj h3 hd hE
    simp only [List.drop_succ_cons, List.drop_zero, List.getD_cons_zero] at h1 h2 h3 hd hE ⊢
    have hfo : fmtOs O = p0 := by rw [hE]; exact objs_sound h3 hd
    have hfx : (rest.map px).map fmtX = rest := by
      rw [List.map_map]
      conv => rhs; rw [← List.map_id rest]
      exact List.map_congr_left (fun p hpm => px_sound (h1 p hpm))
    have hf : fmtM O (rest.map px) = s := by rw [fmtM_join h2, hfo, hfx, hj]
    have hno : ∀ p ∈ p0 :: rest, (32 : UInt8) ∉ p := fun p hpm => by
      rcases List.mem_cons.1 hpm with rfl | hpm
      · exact isDig_no hd
      · have := fmtX_no (h2.mem (List.mem_map_of_mem (f := px) hpm))
        rwa [px_sound (h1 p hpm)] at this
    have hc : cuts 32 s = p0 :: rest := by rw [← hj]; exact cuts_join (by simp) hno
    have hl := h2.len
    rw [List.length_map] at hl
    have ho : looseOs s = O := by
      unfold looseOs
      rw [hc, List.getD_cons_zero, ← hfo]
      exact (objs_fmt h2).2.1
    have hx : looseXs s = rest.map px := by
      unfold looseXs
      rw [hc, List.drop_succ_cons, List.drop_zero, List.take_of_length_le (by omega)]
      refine List.map_congr_left (fun p hpm => ?_)
      have := looseX_fmt (h2.mem (List.mem_map_of_mem (f := px) hpm))
      rwa [px_sound (h1 p hpm)] at this
    have hok : okPM s := ⟨hs0, by rw [ho, hx]; exact hf⟩
    refine ⟨decide_eq_true hok, ?_, ?_⟩
    · unfold parMO; rw [if_pos hok, ho]
    · unfold parMX; rw [if_pos hok, hx]
theorem machine_no {s : List UInt8} {O : List Int} (hO : ObjI ((wsI s).getD 0 []) O) (h : ¬ ((∀ p ∈ (wsI s).drop 1, pxOk p = true) ∧ MOk O (((wsI s).drop 1).map px))) :
    parMok s = false ∧ parMO s = [] ∧ parMX s = [] := by
  have hno : ¬ okPM s := fun hok => by
    obtain ⟨hs0, hf⟩ := hok
    have hM : MOk (looseOs s) (looseXs s) := by
      by_cases hM : MOk (looseOs s) (looseXs s)
      · exact hM
      · exfalso
        apply hs0
        rw [← hf]
        unfold fmtM
        rw [if_neg hM]
    rw [fmtM_join hM] at hf
    have hob := objs_fmt hM
    have hl := hM.len
    have hw : wsI s = fmtOs (looseOs s) :: (looseXs s).map fmtX := by
      unfold wsI
      conv => lhs; rw [← hf]
      refine split_join (by simp) (fun p hp => ?_) (by simp; omega)
      rcases List.mem_cons.1 hp with rfl | hp
      · exact isDig_no hob.2.2.1
      · obtain ⟨x, hx, rfl⟩ := List.mem_map.1 hp
        exact fmtX_no (hM.mem hx)
    rw [hw] at h hO
    simp only [List.drop_succ_cons, List.drop_zero, List.getD_cons_zero] at h hO
    have hpx : ((looseXs s).map fmtX).map px = looseXs s := by
      rw [List.map_map]
      conv => rhs; rw [← List.map_id (looseXs s)]
      exact List.map_congr_left (fun x hx => (px_fmt (hM.mem hx)).2)
    have hE : O = looseOs s := by
      rcases hO with ⟨_, _, e⟩ | ⟨hn, _⟩
      · rw [e, hob.2.2.2]
      · exact absurd ⟨hob.1, hob.2.2.1⟩ hn
    refine h ⟨fun p hp => ?_, ?_⟩
    · obtain ⟨x, hx, rfl⟩ := List.mem_map.1 hp
      exact (px_fmt (hM.mem hx)).1
    · rw [hpx, hE]; exact hM
  refine ⟨decide_eq_false hno, ?_, ?_⟩
  · unfold parMO; rw [if_neg hno]
  · unfold parMX; rw [if_neg hno]
/-- a machine is read back -/
theorem mach_back {L1 : List Int} {L2 : List Sess} (h : MOk L1 L2) : parMok (fmtM L1 L2) = true ∧ parMO (fmtM L1 L2) = L1 ∧ parMX (fmtM L1 L2) = L2 := by
  have hob := objs_fmt h
  have hl := h.len
  have hno : ∀ p ∈ fmtOs L1 :: L2.map fmtX, (32 : UInt8) ∉ p := fun p hp => by
    rcases List.mem_cons.1 hp with rfl | hp
    · exact isDig_no hob.2.2.1
    · obtain ⟨x, hx, rfl⟩ := List.mem_map.1 hp
      exact fmtX_no (h.mem hx)
  have hc : cuts 32 (fmtM L1 L2) = fmtOs L1 :: L2.map fmtX := by rw [fmtM_join h]; exact cuts_join (by simp) hno
  have ho : looseOs (fmtM L1 L2) = L1 := by unfold looseOs; rw [hc, List.getD_cons_zero]; exact hob.2.1
  have hx : looseXs (fmtM L1 L2) = L2 := by
    unfold looseXs
    rw [hc, List.drop_succ_cons, List.drop_zero, List.take_of_length_le (by rw [List.length_map]; omega), List.map_map]
    conv => rhs; rw [← List.map_id L2]
    exact List.map_congr_left (fun x hx => looseX_fmt (h.mem hx))
  have hne : fmtM L1 L2 ≠ [] := fun e => by
    have h3 := hob.1
    unfold fmtM at e
    rw [if_pos h] at e
    have := (List.append_eq_nil_iff.1 e).1
    rw [this] at h3
    simp at h3
  have hok : okPM (fmtM L1 L2) := ⟨hne, by rw [ho, hx]⟩
  exact ⟨decide_eq_true hok, by unfold parMO; rw [if_pos hok, ho], by unfold parMX; rw [if_pos hok, hx]⟩
theorem mach_none : parMok [] = false := decide_eq_false (fun h => h.1 rfl)
/-- what was read writes the text again -/
theorem mach_write {p : List UInt8} (h : parMok p = true) : fmtM (parMO p) (parMX p) = p := by
  have hok : okPM p := of_decide_eq_true h
  unfold parMO parMX
  rw [if_pos hok, if_pos hok]
  exact hok.2
theorem fmtM_no {L1 : List Int} {L2 : List Sess} (h : MOk L1 L2) : (44 : UInt8) ∉ fmtM L1 L2 := by
  unfold fmtM
  rw [if_pos h]
  simp only [List.mem_append, not_or]
  refine ⟨fun hm => ?_, fun hm => ?_⟩
  · have := (objs_fmt h).2.2.1 44 hm
    revert this; decide
  · unfold fmtXs at hm
    obtain ⟨x, hx, hm⟩ := List.mem_flatMap.1 hm
    obtain ⟨c, s, d, v⟩ := x
    obtain ⟨h1, h2, h3⟩ := sessOk_in (h.mem hx)
    unfold fmtX at hm
    simp only [List.mem_append, List.mem_cons, List.not_mem_nil, or_false] at hm
    rcases hm with hm | hm | hm | hm | hm | hm
    · revert hm; decide
    · exact itoa_no (by omega) (by decide) hm
    · revert hm; decide
    · exact itoa_no (by omega) (by decide) hm
    · revert hm; cases d <;> decide
    · exact itoa_no (by omega) (by decide) hm
end Go.Proofs.YtgjebjoaemeeoaaGreatDoor.kit
namespace Go.Proofs.YtgjebjoaemeeoaaGreatDoor.kit
open Go.ChangeShapes Go.WideShapes Go.ChangeAt Go.RowKit
set_option linter.unusedVariables false
set_option linter.unusedSimpArgs false

theorem implParseOp (s : ByteArray) (w : World) (hs : s.size ≤ 1048576) (hM : Mx w) (hT : Tab w) :
    Calls Tryz.prog 7 #[.string s] w fun e w' => e = .returned (.tuple #[opV (parO s.data.toList).1 (parO s.data.toList).2.1 (parO s.data.toList).2.2.1 (parO s.data.toList).2.2.2.1 (parO s.data.toList).2.2.2.2.1 (parO s.data.toList).2.2.2.2.2, .bool (parOok s.data.toList)]) ∧ Below w.heap.size w w' := by
  have hl : s.data.toList.length = s.size := by rw [Array.length_toList]; rfl
  have hsz : ∀ p ∈ wordsL s.data.toList, p.length ≤ s.size := fun p hp => by rw [← hl]; exact split_mem 32 _ _ p hp
  have hlen := words_len s.data.toList
  have hno : ∀ {C : Prop}, C → (C → ¬ (2 ≤ (wordsL s.data.toList).length ∧ allPar (originL s.data.toList) = true ∧ allPar ((wordsL s.data.toList).drop 2) = true ∧ kindL s.data.toList ≠ 0 ∧ okT (tupL s.data.toList) = true)) →
      (Calls Tryz.prog 7 #[.string s] w fun e w' => e = .returned (.tuple #[opV 0 0 0 0 0 0, .bool false]) ∧ Below w.heap.size w w') →
      Calls Tryz.prog 7 #[.string s] w fun e w' => e = .returned (.tuple #[opV (parO s.data.toList).1 (parO s.data.toList).2.1 (parO s.data.toList).2.2.1 (parO s.data.toList).2.2.2.1 (parO s.data.toList).2.2.2.2.1 (parO s.data.toList).2.2.2.2.2, .bool (parOok s.data.toList)]) ∧ Below w.heap.size w w' := fun c h hc => by
    obtain ⟨h1, h2⟩ := impl_no (h c)
    rw [h1, h2]; exact hc
  have hyes : allPar (originL s.data.toList) = true → allPar ((wordsL s.data.toList).drop 2) = true → kindL s.data.toList ≠ 0 → okT (tupL s.data.toList) = true →
      (Calls Tryz.prog 7 #[.string s] w fun e w' => e = .returned (.tuple #[opV (tupL s.data.toList).1 (tupL s.data.toList).2.1 (tupL s.data.toList).2.2.1 (tupL s.data.toList).2.2.2.1 (tupL s.data.toList).2.2.2.2.1 (tupL s.data.toList).2.2.2.2.2, .bool true]) ∧ Below w.heap.size w w') →
      Calls Tryz.prog 7 #[.string s] w fun e w' => e = .returned (.tuple #[opV (parO s.data.toList).1 (parO s.data.toList).2.1 (parO s.data.toList).2.2.1 (parO s.data.toList).2.2.2.1 (parO s.data.toList).2.2.2.2.1 (parO s.data.toList).2.2.2.2.2, .bool (parOok s.data.toList)]) ∧ Below w.heap.size w w' := fun h1 h2 h3 h4 hc => by
    obtain ⟨e1, e2⟩ := impl_yes h1 h2 h3 h4
    rw [e1, e2]; exact hc
  generalize hws : wordsL s.data.toList = ws at *
  have hor : originL s.data.toList = [(Lib.cut (ws.getD 0 []) [46]).1, (Lib.cut (ws.getD 0 []) [46]).2.1] := by unfold originL; rw [hws]
  match ws, hlen with
  | [p0], _ => exact hno trivial (fun _ h => by have := h.1; simp at this) (implParse_short s w hs (Lib.hid (by rw [hws]; rfl)) hM hT)
  | [p0, p1], _ =>
    have hor : originL s.data.toList = [(Lib.cut p0 [46]).1, (Lib.cut p0 [46]).2.1] := hor
    by_cases hb : (allPar (originL s.data.toList) && allPar []) = true
    · rw [Bool.and_eq_true] at hb
      obtain ⟨hb1, hb2⟩ := hb
      have hb1' := hb1
      rw [hor] at hb1'
      refine hno trivial (fun _ h => ?_) (implParse_none2 s w p0 p1 hs (Lib.hid (by rw [hws]; rfl)) (Lib.hid (by rw [hws]; rfl)) (hsz p0 (by simp)) (Lib.hid (by rw [hws]; rfl)) (hsz p1 (by simp)) hM hT (Lib.hid hb1') (Lib.hid hb2))
      apply h.2.2.2.1
      unfold kindL
      rw [hws]; simp
    · refine hno hb (fun c h => c ?_) (implParse_bad2 s w p0 p1 hs (Lib.hid (by rw [hws]; rfl)) (Lib.hid (by rw [hws]; rfl)) (hsz p0 (by simp)) (Lib.hid (by rw [hws]; rfl)) (hsz p1 (by simp)) hM hT _ _ (Lib.hid rfl) (Lib.hid rfl) ?_)
      · rw [Bool.and_eq_true]; exact ⟨h.2.1, h.2.2.1⟩
      · rw [← hor]; simpa using hb
  | [p0, p1, p2], _ =>
    have hor : originL s.data.toList = [(Lib.cut p0 [46]).1, (Lib.cut p0 [46]).2.1] := hor
    by_cases hb : (allPar (originL s.data.toList) && allPar [p2]) = true
    · rw [Bool.and_eq_true] at hb
      obtain ⟨hb1, hb2⟩ := hb
      have hb1' := hb1
      rw [hor] at hb1'
      refine hno trivial (fun _ h => ?_) (implParse_none3 s w p0 p1 p2 hs (Lib.hid (by rw [hws]; rfl)) (Lib.hid (by rw [hws]; rfl)) (hsz p0 (by simp)) (Lib.hid (by rw [hws]; rfl)) (hsz p1 (by simp)) (Lib.hid (by rw [hws]; rfl)) (hsz p2 (by simp)) hM hT (Lib.hid hb1') (Lib.hid hb2))
      apply h.2.2.2.1
      unfold kindL
      rw [hws]; simp
    · refine hno hb (fun c h => c ?_) (implParse_bad3 s w p0 p1 p2 hs (Lib.hid (by rw [hws]; rfl)) (Lib.hid (by rw [hws]; rfl)) (hsz p0 (by simp)) (Lib.hid (by rw [hws]; rfl)) (hsz p1 (by simp)) (Lib.hid (by rw [hws]; rfl)) (hsz p2 (by simp)) hM hT _ _ (Lib.hid rfl) (Lib.hid rfl) ?_)
      · rw [Bool.and_eq_true]; exact ⟨h.2.1, h.2.2.1⟩
      · rw [← hor]; simpa using hb
  | [p0, p1, p2, p3], _ =>
    have hor : originL s.data.toList = [(Lib.cut p0 [46]).1, (Lib.cut p0 [46]).2.1] := hor
    by_cases hb : (allPar (originL s.data.toList) && allPar [p2, p3]) = true
    · rw [Bool.and_eq_true] at hb
      obtain ⟨hb1, hb2⟩ := hb
      have hb1' := hb1
      rw [hor] at hb1'
      by_cases hw : p1 = wW
      · have hkd : kindL s.data.toList = 1 := by unfold kindL; rw [hws]; simp [hw, wW, wS]
        have htp : tupL s.data.toList = (parN (Lib.cut p0 [46]).1, parN (Lib.cut p0 [46]).2.1, 1, parN p2, 0, parN p3) := by unfold tupL; rw [hkd, hor, hws]; rfl
        by_cases hok : okT (tupL s.data.toList) = true
        · refine hyes hb1 hb2 (by rw [hkd]; omega) hok ?_
          rw [htp] at hok ⊢
          exact implParse_write_true s w p0 p1 p2 p3 hs (Lib.hid (by rw [hws]; rfl)) (Lib.hid (by rw [hws]; rfl)) (hsz p0 (by simp)) (Lib.hid (by rw [hws]; rfl)) (hsz p1 (by simp)) (Lib.hid (by rw [hws]; rfl)) (hsz p2 (by simp)) (Lib.hid (by rw [hws]; rfl)) (hsz p3 (by simp)) hM hT _ _ _ _ (Lib.hid hb1') (Lib.hid hb2) (Lib.hid rfl) (Lib.hid rfl) (Lib.hid rfl) (Lib.hid rfl) (Lib.hid hw) (Lib.hid hok)
        · refine hno hok (fun c h => c h.2.2.2.2) ?_
          rw [htp] at hok
          exact implParse_write_false s w p0 p1 p2 p3 hs (Lib.hid (by rw [hws]; rfl)) (Lib.hid (by rw [hws]; rfl)) (hsz p0 (by simp)) (Lib.hid (by rw [hws]; rfl)) (hsz p1 (by simp)) (Lib.hid (by rw [hws]; rfl)) (hsz p2 (by simp)) (Lib.hid (by rw [hws]; rfl)) (hsz p3 (by simp)) hM hT _ _ _ _ (Lib.hid hb1') (Lib.hid hb2) (Lib.hid rfl) (Lib.hid rfl) (Lib.hid rfl) (Lib.hid rfl) (Lib.hid hw) (Lib.hid (Bool.not_eq_true _ ▸ hok))
      · refine hno trivial (fun _ h => ?_) (implParse_none4 s w p0 p1 p2 p3 hs (Lib.hid (by rw [hws]; rfl)) (Lib.hid (by rw [hws]; rfl)) (hsz p0 (by simp)) (Lib.hid (by rw [hws]; rfl)) (hsz p1 (by simp)) (Lib.hid (by rw [hws]; rfl)) (hsz p2 (by simp)) (Lib.hid (by rw [hws]; rfl)) (hsz p3 (by simp)) hM hT (Lib.hid hb1') (Lib.hid hb2) (Lib.hid hw))
        apply h.2.2.2.1
        unfold kindL
        rw [hws]; simp [hw]
    · refine hno hb (fun c h => c ?_) (implParse_bad4 s w p0 p1 p2 p3 hs (Lib.hid (by rw [hws]; rfl)) (Lib.hid (by rw [hws]; rfl)) (hsz p0 (by simp)) (Lib.hid (by rw [hws]; rfl)) (hsz p1 (by simp)) (Lib.hid (by rw [hws]; rfl)) (hsz p2 (by simp)) (Lib.hid (by rw [hws]; rfl)) (hsz p3 (by simp)) hM hT _ _ (Lib.hid rfl) (Lib.hid rfl) ?_)
      · rw [Bool.and_eq_true]; exact ⟨h.2.1, h.2.2.1⟩
      · rw [← hor]; simpa using hb
  | [p0, p1, p2, p3, p4], _ =>
    have hor : originL s.data.toList = [(Lib.cut p0 [46]).1, (Lib.cut p0 [46]).2.1] := hor
    by_cases hb : (allPar (originL s.data.toList) && allPar [p2, p3, p4]) = true
    · rw [Bool.and_eq_true] at hb
      obtain ⟨hb1, hb2⟩ := hb
      have hb1' := hb1
      rw [hor] at hb1'
      by_cases hw : p1 = wS
      · have hkd : kindL s.data.toList = 2 := by unfold kindL; rw [hws]; simp [hw, wW, wS]
        have htp : tupL s.data.toList = (parN (Lib.cut p0 [46]).1, parN (Lib.cut p0 [46]).2.1, 2, parN p2, parN p3, parN p4) := by unfold tupL; rw [hkd, hor, hws]; rfl
        by_cases hok : okT (tupL s.data.toList) = true
        · refine hyes hb1 hb2 (by rw [hkd]; omega) hok ?_
          rw [htp] at hok ⊢
          exact implParse_swap_true s w p0 p1 p2 p3 p4 hs (Lib.hid (by rw [hws]; rfl)) (Lib.hid (by rw [hws]; rfl)) (hsz p0 (by simp)) (Lib.hid (by rw [hws]; rfl)) (hsz p1 (by simp)) (Lib.hid (by rw [hws]; rfl)) (hsz p2 (by simp)) (Lib.hid (by rw [hws]; rfl)) (hsz p3 (by simp)) (Lib.hid (by rw [hws]; rfl)) (hsz p4 (by simp)) hM hT _ _ _ _ _ (Lib.hid hb1') (Lib.hid hb2) (Lib.hid rfl) (Lib.hid rfl) (Lib.hid rfl) (Lib.hid rfl) (Lib.hid rfl) (Lib.hid hw) (Lib.hid hok)
        · refine hno hok (fun c h => c h.2.2.2.2) ?_
          rw [htp] at hok
          exact implParse_swap_false s w p0 p1 p2 p3 p4 hs (Lib.hid (by rw [hws]; rfl)) (Lib.hid (by rw [hws]; rfl)) (hsz p0 (by simp)) (Lib.hid (by rw [hws]; rfl)) (hsz p1 (by simp)) (Lib.hid (by rw [hws]; rfl)) (hsz p2 (by simp)) (Lib.hid (by rw [hws]; rfl)) (hsz p3 (by simp)) (Lib.hid (by rw [hws]; rfl)) (hsz p4 (by simp)) hM hT _ _ _ _ _ (Lib.hid hb1') (Lib.hid hb2) (Lib.hid rfl) (Lib.hid rfl) (Lib.hid rfl) (Lib.hid rfl) (Lib.hid rfl) (Lib.hid hw) (Lib.hid (Bool.not_eq_true _ ▸ hok))
      · refine hno trivial (fun _ h => ?_) (implParse_none5 s w p0 p1 p2 p3 p4 hs (Lib.hid (by rw [hws]; rfl)) (Lib.hid (by rw [hws]; rfl)) (hsz p0 (by simp)) (Lib.hid (by rw [hws]; rfl)) (hsz p1 (by simp)) (Lib.hid (by rw [hws]; rfl)) (hsz p2 (by simp)) (Lib.hid (by rw [hws]; rfl)) (hsz p3 (by simp)) (Lib.hid (by rw [hws]; rfl)) (hsz p4 (by simp)) hM hT (Lib.hid hb1') (Lib.hid hb2) (Lib.hid hw))
        apply h.2.2.2.1
        unfold kindL
        rw [hws]; simp [hw]
    · refine hno hb (fun c h => c ?_) (implParse_bad5 s w p0 p1 p2 p3 p4 hs (Lib.hid (by rw [hws]; rfl)) (Lib.hid (by rw [hws]; rfl)) (hsz p0 (by simp)) (Lib.hid (by rw [hws]; rfl)) (hsz p1 (by simp)) (Lib.hid (by rw [hws]; rfl)) (hsz p2 (by simp)) (Lib.hid (by rw [hws]; rfl)) (hsz p3 (by simp)) (Lib.hid (by rw [hws]; rfl)) (hsz p4 (by simp)) hM hT _ _ (Lib.hid rfl) (Lib.hid rfl) ?_)
      · rw [Bool.and_eq_true]; exact ⟨h.2.1, h.2.2.1⟩
      · rw [← hor]; simpa using hb
end Go.Proofs.YtgjebjoaemeeoaaGreatDoor.kit
namespace Go.Proofs.YtgjebjoaemeeoaaGreatDoor.kit
open Go.ChangeShapes Go.WideShapes Go.ChangeAt Go.RowKit
set_option linter.unusedVariables false
set_option linter.unusedSimpArgs false

/-- the row of the parts: its block stays -/
def PartsAt (w : World) (g : Nat) (ps : List (List UInt8)) : Prop := (∃ cs r, w.heap[g]? = some (.cells cs 9 r)) ∧ ∀ j, j < ps.length → w.cell? ⟨g, j, none⟩ = some (str (ps.getD j []))
theorem PartsAt.lt {w : World} {g : Nat} {ps : List (List UInt8)} (h : PartsAt w g ps) : g < w.heap.size := by obtain ⟨cs, r, h⟩ := h.1; exact (Array.getElem?_eq_some_iff.1 h).1
theorem PartsAt.same {w w' : World} {g : Nat} {ps : List (List UInt8)} (h : PartsAt w g ps) (hb : w'.heap[g]? = w.heap[g]?) : PartsAt w' g ps := by
  obtain ⟨cs, r, hc⟩ := h.1
  refine ⟨⟨cs, r, hb.trans hc⟩, fun j hj => ?_⟩
  rw [← h.2 j hj]
  simp only [World.cell?, hb]
theorem PartsAt.later {w w' : World} {g : Nat} {ps : List (List UInt8)} (h : PartsAt w g ps) (hb : Below w.heap.size w w') : PartsAt w' g ps := h.same (hb.block g h.lt)
theorem parts_of {base : Nat} {w : World} {v : Value} {ps : List (List UInt8)} (h : w.ownsRow base 9 1 v ps.length (strs ps)) (h0 : 0 < ps.length) :
    ∃ g cap, v = .slice (some ⟨g, 0, none⟩) ps.length cap ∧ ps.length ≤ cap ∧ cap ≤ maxLen ∧ PartsAt w g ps := by
  obtain ⟨g, cap, rfl, h1, h2, h3, h4, h5⟩ := strs_there h h0
  refine ⟨g, cap, rfl, h1, h2, ?_, h5⟩
  rcases h.2 with ⟨hv, _⟩ | ⟨q, c, cur, hv, _, hh, _⟩
  · cases hv
  · cases hv
    exact ⟨_, _, hh⟩
theorem PartsAt.past {w w' : World} {g : Nat} {ps : List (List UInt8)} (h : PartsAt w g ps) {e : TypeId} (hte : 9 ≠ e) {base size k : Nat} {v : Value} {xs : List Value} (hr : w.ownsRow base e size v k xs) (hg : w.grownBy w' v.ownBlock) : PartsAt w' g ps := by
  obtain ⟨cs, r, hc⟩ := h.1
  exact h.same (hg.block g h.lt (fun e => row_other hc hte hr e.symm))
theorem PartsAt.put {w : World} {g b : Nat} {ps : List (List UInt8)} (h : PartsAt w g ps) {t : TypeId} {cs : Array Value} (hb : BoxC w b t cs) (hte : t ≠ 9) (j : Nat) (u : Value) : PartsAt (w.setCell ⟨b, j, none⟩ u) g ps := by
  have hne : g ≠ b := fun e => by
    obtain ⟨cs', r, hc⟩ := h.1
    rw [e] at hc
    have := hc.symm.trans hb
    simp at this
    exact hte this.2.1.symm
  exact h.same (Below.heap_setCell _ _ _ _ (by simpa using hne))
theorem getD_at {s : ByteArray} {k : Nat} (h : k < s.size) : s.data.toList.getD k 0 = s[k] := by
  have hl : k < s.data.toList.length := by rw [Array.length_toList]; exact h
  rw [List.getD_eq_getElem?_getD, List.getElem?_eq_getElem hl]
  rfl
end Go.Proofs.YtgjebjoaemeeoaaGreatDoor.kit
namespace Go.Proofs.YtgjebjoaemeeoaaGreatDoor.kit
open Go.ChangeShapes Go.WideShapes Go.ChangeAt Go.RowKit
set_option linter.unusedVariables false
set_option linter.unusedSimpArgs false

theorem split_far (x : UInt8) : ∀ (n : Nat) (l : List UInt8), l.length ≤ n → ∀ k k', l.length ≤ k → l.length ≤ k' → Lib.splitK [x] 0 k l = Lib.splitK [x] 0 k' l
  | n, l, hn, k, k', h, h' => by
    rcases first_x x l with hx | ⟨a, r, ha, rfl⟩
    · rw [split_none hx, split_none hx]
    · match n, k, k' with
      | 0, _, _ => simp at hn
      | _, 0, _ => simp at h
      | _, _, 0 => simp at h'
      | n + 1, k + 1, k' + 1 =>
        rw [split_app ha, split_app ha, split_far x n r (by simp at hn; omega) k k' (by simp at h; omega) (by simp at h'; omega)]
theorem words_min (x : UInt8) (n : Nat) (l : List UInt8) : Lib.splitK [x] 0 (min (n + 1) (l.length + 1) - 1) l = Lib.splitK [x] 0 n l := by
  by_cases h : n + 1 ≤ l.length + 1
  · rw [Nat.min_eq_left h]; rfl
  · exact split_far x _ l (Nat.le_refl _) _ _ (by omega) (by omega)
theorem splitWordsK (x : UInt8) (n : Nat) (hn : n ≤ 100) (s : ByteArray) (w : World) (hs : s.size ≤ 1048576) (hM : Mx w) :
    Calls Tryz.prog 33 #[.string s, .string { data := #[x] }, .int .i64 ((n + 1 : Nat) : Int)] w fun e w' => ∃ g cap, e = .returned (.slice (some ⟨g, 0, none⟩) (Lib.splitK [x] 0 n s.data.toList).length cap) ∧ (Lib.splitK [x] 0 n s.data.toList).length ≤ cap ∧ cap ≤ n + 1 ∧ w.heap.size ≤ g ∧
      PartsAt w' g (Lib.splitK [x] 0 n s.data.toList) ∧ Below w.heap.size w w' := by
  obtain ⟨m, hm⟩ := hM
  have hl : s.data.toList.length = s.size := by rw [Array.length_toList]; rfl
  refine (Tryz.strings_SplitN s { data := #[x] } (n + 1) m w (by omega) hm (by show 1 ≤ 1; omega) (by omega) (by omega)).mono ?_
  rintro e w' ⟨rfl, rfl⟩
  have hd := Lib.splitB_data { data := #[x] } 0 (min (n + 1) (s.size + 1) - 1) s
  have hle := Lib.splitB_length_le { data := #[x] } 0 (min (n + 1) (s.size + 1) - 1) s
  have hw : Lib.splitK [x] 0 n s.data.toList = (Lib.splitB { data := #[x] } 0 (min (n + 1) (s.size + 1) - 1) s).map (·.data.toList) := by rw [hd, ← words_min, hl]
  generalize Lib.splitB { data := #[x] } 0 (min (n + 1) (s.size + 1) - 1) s = X at *
  have hlen : (Lib.splitK [x] 0 n s.data.toList).length = X.length := by rw [hw, List.length_map]
  refine ⟨w.heap.size, min (n + 1) (s.size + 1), by rw [hlen], by rw [hlen]; omega, by omega, Nat.le_refl _, ⟨⟨_, _, heap_alloc_new w _⟩, fun j hj => ?_⟩, (Below.refl _ _).alloc (Nat.le_refl _) _⟩
  rw [World.cell?_alloc_at _ _ _ _ rfl]
  rw [hlen] at hj
  unfold Lib.cellsOf
  rw [List.getElem?_toArray, List.getElem?_append_left (by simpa using hj), hw]
  simp [hj]
end Go.Proofs.YtgjebjoaemeeoaaGreatDoor.kit
namespace Go.Proofs.YtgjebjoaemeeoaaGreatDoor.kit
open Go.ChangeShapes Go.WideShapes Go.ChangeAt Go.RowKit
set_option linter.unusedVariables false
set_option linter.unusedSimpArgs false

def partsL (l : List UInt8) : List (List UInt8) := Lib.splitK [59] 0 15 l
theorem parts_min (l : List UInt8) : Lib.splitK [59] 0 (min 16 (l.length + 1) - 1) l = partsL l := by
  by_cases h : 16 ≤ l.length + 1
  · rw [Nat.min_eq_left h]; rfl
  · exact split_far 59 _ l (Nat.le_refl _) _ _ (by omega) (by omega)
theorem cut_leE (p : List UInt8) : (Lib.cut p [58]).1.length ≤ p.length ∧ (Lib.cut p [58]).2.1.length ≤ p.length := by
  rcases first_x 58 p with h | ⟨a, r, h, rfl⟩
  · rw [cut_none h]; simp
  · rw [cut_app h]; simp; omega
def peV (p : List UInt8) : Value := entV (if peOk p = true then peE p else z0E)
theorem peV_no {p : List UInt8} (h : peOk p = false) : peV p = .agg #[.int .i64 0, .int .i64 0, .int .i64 0, .int .i64 0, .int .i64 0, .int .i64 0, .int .i64 0] := by unfold peV; rw [h]; rfl
theorem peV_yes {p : List UInt8} (h : peOk p = true) : peV p = entV (peE p) := by unfold peV; rw [if_pos h]
theorem splitParts (s : ByteArray) (w : World) (hs : s.size ≤ 1048576) (hM : Mx w) :
    Calls Tryz.prog 33 #[.string s, .string { data := #[59] }, .int .i64 16] w fun e w' => ∃ g cap, e = .returned (.slice (some ⟨g, 0, none⟩) (partsL s.data.toList).length cap) ∧ (partsL s.data.toList).length ≤ cap ∧ cap ≤ 16 ∧ w.heap.size ≤ g ∧ g < w'.heap.size ∧
      (∀ j, j < (partsL s.data.toList).length → w'.cell? ⟨g, j, none⟩ = some (str ((partsL s.data.toList).getD j []))) ∧ Below w.heap.size w w' := by
  obtain ⟨m, hm⟩ := hM
  have hl : s.data.toList.length = s.size := by rw [Array.length_toList]; rfl
  refine (Tryz.strings_SplitN s { data := #[59] } 16 m w (by omega) hm (by decide) (by omega) (by omega)).mono ?_
  rintro e w' ⟨rfl, rfl⟩
  have hd := Lib.splitB_data { data := #[59] } 0 (min 16 (s.size + 1) - 1) s
  have hle := Lib.splitB_length_le { data := #[59] } 0 (min 16 (s.size + 1) - 1) s
  have hw : partsL s.data.toList = (Lib.splitB { data := #[59] } 0 (min 16 (s.size + 1) - 1) s).map (·.data.toList) := by rw [hd, ← parts_min, hl]
  have hlen : (partsL s.data.toList).length = (Lib.splitB { data := #[59] } 0 (min 16 (s.size + 1) - 1) s).length := by rw [hw, List.length_map]
  refine ⟨w.heap.size, min 16 (s.size + 1), by rw [hlen], by rw [hlen]; omega, by omega, Nat.le_refl _, by simp, fun j hj => ?_, (Below.refl _ _).alloc (Nat.le_refl _) _⟩
  rw [World.cell?_alloc_at _ _ _ _ rfl]
  rw [hlen] at hj
  unfold Lib.cellsOf
  rw [List.getElem?_toArray, List.getElem?_append_left (by simpa using hj), hw]
  simp [hj]
theorem cutAtE (b : List UInt8) (w : World) (h : b.length ≤ 1048576) (hM : Mx w) :
    Calls Tryz.prog 34 #[str b, .string ⟨#[58]⟩] w fun e w' => e = .returned (.tuple #[str (Lib.cut b [58]).1, str (Lib.cut b [58]).2.1, .bool (Lib.cut b [58]).2.2]) ∧ Below w.heap.size w w' := by
  obtain ⟨m, hm⟩ := hM
  refine (Tryz.strings_Cut ⟨b.toArray⟩ ⟨#[58]⟩ m w (by rw [size_mk]; omega) hm).mono ?_
  rintro e w' ⟨rfl, n, rfl⟩
  exact ⟨rfl, below_drewN (Below.refl _ _) _⟩
set_option maxRecDepth 100000 in
set_option maxHeartbeats 8000000 in
theorem implParseEntry (p : List UInt8) (w : World) (hp : p.length ≤ 1048576) (hT : Tab w) (hM : Mx w) :
    Calls Tryz.prog 40 #[str p] w fun e w' => e = .returned (.tuple #[peV p, .bool (peOk p)]) ∧ Below w.heap.size w w' := by
  obtain ⟨W, hW⟩ : ∃ W, W = w.alloc (.cells #[.int .i64 0, .int .i64 0, .int .i64 0, .int .i64 0, .int .i64 0, .int .i64 0, .int .i64 0] 75) := ⟨_, rfl⟩
  have hB : Below w.heap.size w W := by rw [hW]; exact (Below.refl _ _).alloc (Nat.le_refl _) _
  have HR := Lib.hid (show BoxC W w.heap.size 75 #[.int .i64 0, .int .i64 0, .int .i64 0, .int .i64 0, .int .i64 0, .int .i64 0, .int .i64 0] by rw [hW]; exact BoxC.new _ _ _)
  have HB := Lib.hid hB
  have HW := Lib.hid hW
  have HT := Lib.hid hT
  have HM := Lib.hid hM
  have hc := cut_leE p
  have jc := fun W' (h : Mx W') => cutAtE p W' hp h
  obtain ⟨pa, pb, pf, hcut⟩ : ∃ a b c, Lib.cut p [58] = (a, b, c) := ⟨_, _, _, rfl⟩
  have HE := Lib.hid (show peOk p = (parOk pa && parOok pb) by unfold peOk; rw [hcut])
  have HV := Lib.hid (show peE p = ⟨parN pa, (parO pb).1, (parO pb).2.1, (parO pb).2.2.1, (parO pb).2.2.2.1, (parO pb).2.2.2.2.1, (parO pb).2.2.2.2.2⟩ by unfold peE; rw [hcut])
  rw [hcut] at jc hc
  simp only at jc hc
  have JC := Lib.hid jc
  have jp := fun W' (m : Mx W') (t : Tab W') => implParseOp ⟨pb.toArray⟩ W' (by rw [size_mk]; omega) m t
  simp only at jp
  obtain ⟨oc, os, ok, oo, od, ov, hpo⟩ : ∃ a b c d e f, parO pb = (a, b, c, d, e, f) := ⟨_, _, _, _, _, _, rfl⟩
  rw [hpo] at jp HV
  simp only at jp HV
  unfold opV at jp
  have JP := Lib.hid jp
  have hla : pa.length ≤ 1048576 := by omega
  clear hB hW hT hM hcut hpo jc jp hc
  go_enter Tryz.func40, Tryz.ntmps40
  go_wp2_with fail
  rw [← HW.out]
  refine (JC.out _ (HM.out.below HB.out)).mono ?_
  rintro e w1 ⟨rfl, hb⟩
  replace HR := Lib.hid (HR.out.later hb)
  replace HB := Lib.hid (HB.out.trans (hb.mono HB.out.size))
  clear hb HW JC
  go_wp2_with fail
  refine (implParseIntL pa _ hla (HT.out.below HB.out)).mono ?_
  rintro e w2 ⟨rfl, hb⟩
  replace HR := Lib.hid (HR.out.later hb)
  replace HB := Lib.hid (HB.out.trans (hb.mono HB.out.size))
  clear hb
  go_wp2_with fail
  refine (JP.out _ (HM.out.below HB.out) (HT.out.below HB.out)).mono ?_
  rintro e w3 ⟨rfl, hb⟩
  replace HR := Lib.hid (HR.out.later hb)
  replace HB := Lib.hid (HB.out.trans (hb.mono HB.out.size))
  have hbA := (Below.refl w3.heap.size w3).alloc (Nat.le_refl _) (.cells #[.int .i64 oc, .int .i64 os, .int .i64 ok, .int .i64 oo, .int .i64 od, .int .i64 ov] 25)
  replace HR := Lib.hid (HR.out.later hbA)
  replace HB := Lib.hid (HB.out.trans (hbA.mono HB.out.size))
  clear hb JP hbA
  have r0 := HR.out.c 0 rfl
  have r1 := HR.out.c 1 rfl
  have r2 := HR.out.c 2 rfl
  have r3 := HR.out.c 3 rfl
  have r4 := HR.out.c 4 rfl
  have r5 := HR.out.c 5 rfl
  have r6 := HR.out.c 6 rfl
  have f0 := HR.out.f 0
  have f1 := HR.out.f 1
  have f2 := HR.out.f 2
  have f3 := HR.out.f 3
  have f4 := HR.out.f 4
  have f5 := HR.out.f 5
  have f6 := HR.out.f 6
  generalize parN pa = nu at *
  cases h1 : parOk pa with
  | false =>
    rw [h1, Bool.false_and] at HE
    clear h1
    go_wp2_with fail
    refine bodyPost_ret (v := .tuple #[.agg #[.int .i64 0, .int .i64 0, .int .i64 0, .int .i64 0, .int .i64 0, .int .i64 0, .int .i64 0], .bool false]) (by simp [results, Tryz.results40, go_sem, r0, r1, r2, r3, r4, r5, r6]) rfl ?_
    refine ⟨by rw [peV_no HE.out, HE.out], ?_⟩
    exact
      (((((((HB.out.setCell (p := ⟨w.heap.size, 0, none⟩) (Nat.le_refl _) _).setCell (p := ⟨w.heap.size, 1, none⟩) (Nat.le_refl _) _).setCell (p := ⟨w.heap.size, 2, none⟩) (Nat.le_refl _) _).setCell (p := ⟨w.heap.size, 3, none⟩) (Nat.le_refl _) _).setCell (p := ⟨w.heap.size, 4, none⟩) (Nat.le_refl _) _).setCell (p := ⟨w.heap.size, 5, none⟩) (Nat.le_refl _) _).setCell (p := ⟨w.heap.size, 6, none⟩) (Nat.le_refl _) _)
  | true =>
    rw [h1, Bool.true_and] at HE
    clear h1
    cases h2 : parOok pb with
    | false =>
      rw [h2] at HE
      clear h2
      go_wp2_with fail
      refine bodyPost_ret (v := .tuple #[.agg #[.int .i64 0, .int .i64 0, .int .i64 0, .int .i64 0, .int .i64 0, .int .i64 0, .int .i64 0], .bool false]) (by simp [results, Tryz.results40, go_sem, r0, r1, r2, r3, r4, r5, r6]) rfl ?_
      refine ⟨by rw [peV_no HE.out, HE.out], ?_⟩
      exact
        (((((((HB.out.setCell (p := ⟨w.heap.size, 0, none⟩) (Nat.le_refl _) _).setCell (p := ⟨w.heap.size, 1, none⟩) (Nat.le_refl _) _).setCell (p := ⟨w.heap.size, 2, none⟩) (Nat.le_refl _) _).setCell (p := ⟨w.heap.size, 3, none⟩) (Nat.le_refl _) _).setCell (p := ⟨w.heap.size, 4, none⟩) (Nat.le_refl _) _).setCell (p := ⟨w.heap.size, 5, none⟩) (Nat.le_refl _) _).setCell (p := ⟨w.heap.size, 6, none⟩) (Nat.le_refl _) _)
    | true =>
      rw [h2] at HE
      clear h2
      go_wp2_with fail
      refine bodyPost_ret (v := .tuple #[.agg #[.int .i64 nu, .int .i64 oc, .int .i64 os, .int .i64 ok, .int .i64 oo, .int .i64 od, .int .i64 ov], .bool true]) (by simp [results, Tryz.results40, go_sem, r0, r1, r2, r3, r4, r5, r6]) rfl ?_
      refine ⟨by rw [peV_yes HE.out, HE.out, HV.out], ?_⟩
      exact
        (((((((HB.out.setCell (p := ⟨w.heap.size, 0, none⟩) (Nat.le_refl _) _).setCell (p := ⟨w.heap.size, 1, none⟩) (Nat.le_refl _) _).setCell (p := ⟨w.heap.size, 2, none⟩) (Nat.le_refl _) _).setCell (p := ⟨w.heap.size, 3, none⟩) (Nat.le_refl _) _).setCell (p := ⟨w.heap.size, 4, none⟩) (Nat.le_refl _) _).setCell (p := ⟨w.heap.size, 5, none⟩) (Nat.le_refl _) _).setCell (p := ⟨w.heap.size, 6, none⟩) (Nat.le_refl _) _)
def lpE (ps : List (List UInt8)) (k : Nat) : List Ent := (ps.take k).map peE
theorem lpE_succ {ps : List (List UInt8)} {k : Nat} (h : k < ps.length) : lpE ps (k + 1) = lpE ps k ++ [peE (ps.getD k [])] := by
  unfold lpE
  rw [List.take_succ_eq_append_getElem h, List.map_append]
  simp [List.getD, h]
theorem lpE_len {ps : List (List UInt8)} {k : Nat} (h : k ≤ ps.length) : (lpE ps k).length = k := by unfold lpE; rw [List.length_map, List.length_take]; omega
theorem lpE_all (ps : List (List UInt8)) : lpE ps ps.length = ps.map peE := by unfold lpE; rw [List.take_length]
theorem parts_bad {s : List UInt8} (hn : s ≠ wordNone) {k : Nat} (h : k < (partsL s).length) (hk : peOk ((partsL s).getD k []) = false) : parLok s = false ∧ parLl s = [] :=
  strict_no hn (fun hh => by
    have := hh.1 ((partsL s).getD k []) (by
      have : (partsL s).getD k [] ∈ partsL s := by simp [List.getD, h]
      exact this)
    rw [hk] at this
    cases this)
theorem parts_all {ps : List (List UInt8)} (h : ∀ j, j < ps.length → peOk (ps.getD j []) = true) : ∀ p ∈ ps, peOk p = true := fun p hp => by
  obtain ⟨j, hj, rfl⟩ := List.mem_iff_getElem.1 hp
  have := h j hj
  simpa [List.getD, hj] using this
theorem infoEi : Tryz.prog.underlying 30 = some (.slice 75) := Tryz.underlying30
set_option maxRecDepth 100000 in
set_option maxHeartbeats 8000000 in
theorem implParseLog (s : ByteArray) (w : World) (hs : s.size ≤ 1048576) (hT : Tab w) (hM : Mx w) :
    Calls Tryz.prog 10 #[.string s] w fun e w' => ∃ u, e = .returned (.tuple #[u, .bool (parLok s.data.toList)]) ∧ OwnE w.heap.size w' u (parLl s.data.toList) ∧ Below w.heap.size w w' := by
  have hl : s.data.toList.length = s.size := by rw [Array.length_toList]; rfl
  by_cases hn : s.data.toList = wordNone
  · have HF := Lib.hid (show parLok s.data.toList = true ∧ parLl s.data.toList = [] from ⟨decide_eq_true (.inl hn), if_pos hn⟩)
    have g0 : (s.toList == [110, 111, 110, 101]) = true := by rw [ByteArray.toList_eq, hn]; rfl
    clear hn
    go_enter Tryz.func10, Tryz.ntmps10
    go_wp2_with fail
    refine bodyPost_ret (v := .tuple #[.slice none 0 0, .bool true]) (by simp [results, Tryz.results10, go_sem]) rfl ?_
    exact ⟨_, by rw [HF.out.1], by rw [HF.out.2]; exact World.ownsRow_nil _ _ _ _, Below.refl _ _⟩
  have g0 : (s.toList == [110, 111, 110, 101]) = false := by rw [ByteArray.toList_eq, beq_eq_false_iff_ne]; exact hn
  have HT := Lib.hid hT
  have HM := Lib.hid hM
  have HBAD := Lib.hid (fun k h hk => parts_bad (s := s.data.toList) (k := k) hn h hk)
  have HYES := Lib.hid (fun h1 h2 => strict_yes (s := s.data.toList) hn h1 h2)
  have HNO := Lib.hid (fun h => strict_no (s := s.data.toList) hn h)
  have HSZ := Lib.hid (show ∀ j, ((partsL s.data.toList).getD j []).length ≤ 1048576 from fun j => by
    rcases Nat.lt_or_ge j (partsL s.data.toList).length with h | h
    · have hm : (partsL s.data.toList).getD j [] ∈ partsL s.data.toList := by simp [List.getD, h]
      have := split_mem 59 _ _ _ hm
      omega
    · simp [List.getD, h])
  have js := splitParts s w hs hM
  rw [show Lib.splitK [59] 0 15 s.data.toList = partsL s.data.toList from rfl] at HYES HNO
  generalize partsL s.data.toList = ps at *
  have JS := Lib.hid js
  clear hn hT hM js hl
  go_enter Tryz.func10, Tryz.ntmps10
  go_wp2_with fail
  refine JS.out.mono ?_
  rintro e w1 ⟨g, cap, rfl, hn1, hc16, hg, hgl, hcell, hb⟩
  have HC := Lib.hid hcell
  have HB := Lib.hid hb
  have hmk : ∀ W : World, (Instr.makeSlice 30 (.int .i64 0) (.int .i64 (ps.length : Int))).run Tryz.prog W = .ok (.slice (some ⟨W.heap.size, 0, none⟩) 0 ps.length) (W.alloc (.cells (madeCells #[.int .i64 0, .int .i64 0, .int .i64 0, .int .i64 0, .int .i64 0, .int .i64 0, .int .i64 0] (ps.length * 7)) 75)) := fun W => by
    obtain ⟨i0, hi, hz0, hz1, hz2⟩ := info_parts infoE
    have h := run_make (P := Tryz.prog) W 30 75 i0 (.agg #[.int .i64 0, .int .i64 0, .int .i64 0, .int .i64 0, .int .i64 0, .int .i64 0, .int .i64 0]) infoEi hi hz0 .i64 .i64 0 (ps.length : Int) (by omega) (by omega) (by rw [hz2]; omega) (by omega)
    simpa [hz1, Value.cells] using h
  clear hcell hb g0 JS
  go_wp2_with fail
  clear hmk
  have hgn : g < w1.heap.size := hgl
  go_loopw [5, 19] (fun u i wr => ∃ k : Nat, k ≤ ps.length ∧ i = .int .i64 k ∧ Hid (OwnE w1.heap.size wr u (lpE ps k)) ∧ Hid (∀ j, j < k → peOk (ps.getD j []) = true) ∧ Hid (Below w1.heap.size w1 wr)) (fun _ i _ => ps.length - (intOf i).toNat)
  case atStart => exact ⟨0, Nat.zero_le _, rfl, Lib.hid (World.ownsRow_made w1 _ _ (Nat.le_refl _) (by unfold maxLen; omega) (by simp [size_madeCells])), Lib.hid (fun j hj => by omega), Lib.hid ((Below.refl _ _).alloc (Nat.le_refl _) _)⟩
  case round =>
    obtain ⟨k, hk, rfl, HO, HJ, HQ⟩ := hrel
    obtain ⟨ua, uc, rfl⟩ := HO.out.shape
    have hlen := lpE_len hk
    have k3 : (0 : Int) ≤ (k : Int) := by omega
    by_cases hlt : k < ps.length
    · have k5 : (k : Int) < (ps.length : Int) := by omega
      have hcell := (HQ.out.cell (p := ⟨g, k, none⟩) hgn).trans (HC.out k hlt)
      have HX := Lib.hid (lpE_succ hlt)
      have hsz := HSZ.out k
      have HBK := Lib.hid (HBAD.out k hlt)
      have HJS := Lib.hid (fun (h : peOk (ps.getD k []) = true) (j : Nat) (hj : j < k + 1) => show peOk (ps.getD j []) = true by
        by_cases e : j = k
        · rw [e]; exact h
        · exact HJ.out j (by omega))
      have JE := Lib.hid (implParseEntry (ps.getD k []) wr hsz (HT.out.below (HB.out.trans (HQ.out.mono HB.out.size))) (HM.out.below (HB.out.trans (HQ.out.mono HB.out.size))))
      generalize ps.getD k [] = p at *
      cases hq : peOk p with
      | false =>
        have HF := Lib.hid (HBK.out hq)
        rw [hq, peV_no hq] at JE
        clear hq
        go_wp2_with fail
        refine JE.out.mono ?_
        rintro e w2 ⟨rfl, hb⟩
        replace HQ := Lib.hid (HQ.out.trans (hb.mono HQ.out.size))
        clear hb JE
        go_wp2_with fail
        refine bodyPost_ret (v := .tuple #[.slice none 0 0, .bool false]) (by simp [results, Tryz.results10, go_sem]) rfl ?_
        exact ⟨_, by rw [HF.out.1], by rw [HF.out.2]; exact World.ownsRow_nil _ _ _ _, (HB.out.trans (HQ.out.mono HB.out.size)).alloc (Nat.le_trans HB.out.size HQ.out.size) _⟩
      | true =>
        replace HJS := Lib.hid (HJS.out hq)
        rw [hq, peV_yes hq] at JE
        obtain ⟨xe, xc, xs, xk, xo, xd, xv, hx⟩ : ∃ a b c d e f g, peE p = ⟨a, b, c, d, e, f, g⟩ := ⟨_, _, _, _, _, _, _, rfl⟩
        rw [hx] at JE HX
        unfold entV at JE
        simp only at JE
        clear hq hx hsz HBK HJ
        go_wp2_with fail
        refine JE.out.mono ?_
        rintro e w2 ⟨rfl, hb⟩
        replace HO := Lib.hid (HO.out.later hb)
        replace HQ := Lib.hid (HQ.out.trans (hb.mono HQ.out.size))
        clear hb JE hcell
        have hbA := (Below.refl w2.heap.size w2).alloc (Nat.le_refl _) (.cells #[.int .i64 xe, .int .i64 xc, .int .i64 xs, .int .i64 xk, .int .i64 xo, .int .i64 xd, .int .i64 xv] 75)
        have HO2 := Lib.hid (HO.out.later hbA)
        have HQ2 := Lib.hid (HQ.out.trans (hbA.mono HQ.out.size))
        have hlit := SrcE.lit (w2.alloc (.cells #[.int .i64 xe, .int .i64 xc, .int .i64 xs, .int .i64 xk, .int .i64 xo, .int .i64 xd, .int .i64 xv] 75)) xe xc xs xk xo xd xv
        simp only [World.size_alloc] at hlit
        have hs2 := HQ2.out.size
        simp only [World.size_alloc] at hs2
        rw [hlen] at HO2
        go_wp2_with (at_builtin; refine wpList_appE infoEi rfl (.tmp 30) (.tmp 32) rfl w1.heap.size _ (lpE ps k) rfl (HO2.out.later ((Below.refl _ _).alloc (Nat.le_refl _) _)) _ _ [⟨xe, xc, xs, xk, xo, xd, xv⟩] rfl hlit (by simp; omega) (by simp; omega) ?_; intro v' w6 ho6 hb6 hg6)
        go_roundw
        case rel => exact ⟨k + 1, by omega, by go_num, Lib.hid (by rw [HX.out]; exact ho6), HJS, Lib.hid ((HQ2.out.alloc (by simp; omega) _).trans hb6)⟩
        case measure => simp [intOf]; omega
    · obtain rfl : k = ps.length := by omega
      have JI := Lib.hid (implIsLogA ua uc (lpE ps ps.length) wr (by omega) (by
        obtain ⟨a, c, hv, _, _, ha, _⟩ := HO.out.form
        injection hv with h1
        subst h1
        exact ha))
      have HAL := Lib.hid (lpE_all ps)
      have HJA := Lib.hid (parts_all HJ.out)
      have hll := hlen
      by_cases hk : LOk (lpE ps ps.length)
      · rw [decide_eq_true hk] at JI
        rw [HAL.out] at hk
        have HF := Lib.hid (HYES.out HJA.out hk)
        rw [← HAL.out] at HF
        rw [hlen] at JI
        have ho := HO.out
        rw [hlen] at ho
        have HO3 := Lib.hid ho
        clear hk ho hlt
        go_wp2_with fail
        refine JI.out.mono ?_
        rintro e w2 ⟨rfl, hb⟩
        go_wp2_with fail
        refine bodyPost_ret (v := .tuple #[.slice ua ps.length uc, .bool true]) (by simp [results, Tryz.results10, go_sem]) rfl ?_
        exact ⟨_, by rw [HF.out.1], by rw [HF.out.2]; exact (HO3.out.later hb).mono HB.out.size, (HB.out.trans (HQ.out.mono HB.out.size)).trans (hb.mono (Nat.le_trans HB.out.size HQ.out.size))⟩
      · rw [decide_eq_false hk] at JI
        rw [HAL.out] at hk
        have HF := Lib.hid (HNO.out (fun h => hk h.2))
        rw [hlen] at JI
        clear hk hlt
        go_wp2_with fail
        refine JI.out.mono ?_
        rintro e w2 ⟨rfl, hb⟩
        go_wp2_with fail
        refine bodyPost_ret (v := .tuple #[.slice none 0 0, .bool false]) (by simp [results, Tryz.results10, go_sem]) rfl ?_
        exact ⟨_, by rw [HF.out.1], by rw [HF.out.2]; exact World.ownsRow_nil _ _ _ _, (HB.out.trans (HQ.out.mono HB.out.size)).trans (hb.mono (Nat.le_trans HB.out.size HQ.out.size))⟩
end Go.Proofs.YtgjebjoaemeeoaaGreatDoor.kit
namespace Go.Proofs.YtgjebjoaemeeoaaGreatDoor.kit
open Go.ChangeShapes Go.WideShapes Go.ChangeAt Go.RowKit
set_option linter.unusedVariables false

/-- a half's digit -/
def hexc (k : Nat) : UInt8 := if k < 10 then UInt8.ofNat (48 + k) else UInt8.ofNat (87 + k)
def hexB (b : UInt8) : List UInt8 := [hexc (b.toNat / 16), hexc (b.toNat % 16)]
def encH (l : List UInt8) : List UInt8 := l.flatMap hexB
theorem encH_snoc (l : List UInt8) (b : UInt8) : encH (l ++ [b]) = encH l ++ hexB b := by simp [encH]
theorem encH_length (l : List UInt8) : (encH l).length = 2 * l.length := by
  induction l with
  | nil => rfl
  | cons b l ih =>
    have : encH (b :: l) = hexB b ++ encH l := by simp [encH]
    rw [this, List.length_append, ih]
    simp [hexB]; omega
def hexStr : ByteArray := { data := #[48, 49, 50, 51, 52, 53, 54, 55, 56, 57, 97, 98, 99, 100, 101, 102] }
theorem hexStr_at : ∀ (k : Nat) (h : k < 16), hexStr[k]? = some (hexc k) := by decide +kernel

theorem hexStr_get {k : Nat} (h : k < hexStr.size) : hexStr[k] = hexc k := by
  have := hexStr_at k h
  rw [ByteArray.getElem?_lt' _ _ h] at this
  exact Option.some.inj this
end Go.Proofs.YtgjebjoaemeeoaaGreatDoor.kit
namespace Go.Proofs.YtgjebjoaemeeoaaGreatDoor.kit
open Go.ChangeShapes Go.WideShapes Go.ChangeAt Go.RowKit
set_option linter.unusedVariables false

/-- a digit's value, or 16 -/
def hval (n : Nat) : Nat := if 48 ≤ n ∧ n ≤ 57 then n - 48 else if 97 ≤ n ∧ n ≤ 102 then n - 87 else 16
/-- .. as Go tells it: -1 for none -/
def hvi (n : Nat) : Int := if hval n < 16 then (hval n : Int) else -1
theorem hexc_hval : ∀ k : Nat, k < 16 → hval (hexc k).toNat = k := by decide +kernel
theorem hval_hexc (b : UInt8) (h : hval b.toNat < 16) : hexc (hval b.toNat) = b := by
  have h1 : ∀ n : Nat, n < 256 → hval n < 16 → hexc (hval n) = UInt8.ofNat n := by decide +kernel
  have := h1 b.toNat b.toNat_lt h
  rw [this, UInt8.ofNat_toNat]
theorem hexc_ne (b : UInt8) {k : Nat} (hk : k < 16) (h : hval b.toNat ≠ k) : hexc k ≠ b := by
  intro e
  subst e
  exact h (hexc_hval k hk)
theorem hval_le (n : Nat) : hval n ≤ 16 := by unfold hval; split <;> (try split) <;> omega
theorem hval_big {n : Nat} (h : 128 ≤ n) : hval n = 16 := by unfold hval; rw [if_neg (by omega), if_neg (by omega)]
def good (l : List UInt8) : Bool := l.all fun b => decide (hval b.toNat < 16)
/-- the bytes that pairs of digits stand for -/
def dec : List UInt8 → List UInt8
  | a :: b :: r => UInt8.ofNat (16 * hval a.toNat + hval b.toNat) :: dec r
  | _ => []
theorem dec_two : ∀ (l : List UInt8) (a b : UInt8), l.length % 2 = 0 → dec (l ++ [a, b]) = dec l ++ [UInt8.ofNat (16 * hval a.toNat + hval b.toNat)]
  | [], a, b, _ => rfl
  | [x], a, b, h => by simp at h
  | x :: y :: r, a, b, h => by
    simp only [List.cons_append, dec]
    rw [dec_two r a b (by simp at h; omega)]
theorem dec_one : ∀ (l : List UInt8) (a : UInt8), l.length % 2 = 0 → dec (l ++ [a]) = dec l
  | [], a, _ => rfl
  | [x], a, h => by simp at h
  | x :: y :: r, a, h => by
    simp only [List.cons_append, dec]
    rw [dec_one r a (by simp at h; omega)]
theorem dec_length : ∀ l : List UInt8, (dec l).length ≤ l.length
  | [] => by simp [dec]
  | [x] => by simp [dec]
  | x :: y :: r => by
    have := dec_length r
    simp only [dec, List.length_cons]; omega
def decHok (l : List UInt8) : Bool := decide (l.length % 2 = 0) && good l
def decHs (l : List UInt8) : List UInt8 := if decHok l then dec l else []
theorem good_take {l : List UInt8} {k : Nat} (h : good (l.take k) = false) : good l = false := by
  rw [← List.take_append_drop k l]
  unfold good at h ⊢
  rw [List.all_append, h]; rfl
theorem good_snoc (l : List UInt8) (b : UInt8) : good (l ++ [b]) = (good l && decide (hval b.toNat < 16)) := by simp [good]

theorem decH_odd {l : List UInt8} (h : l.length % 2 = 1) : decHok l = false ∧ decHs l = [] := by
  have : decHok l = false := by unfold decHok; rw [decide_eq_false (by omega)]; rfl
  exact ⟨this, by unfold decHs; rw [this]; rfl⟩
theorem decH_bad {l : List UInt8} (h : good l = false) : decHok l = false ∧ decHs l = [] := by
  have : decHok l = false := by unfold decHok; rw [h, Bool.and_false]
  exact ⟨this, by unfold decHs; rw [this]; rfl⟩
theorem decH_good {l : List UInt8} (h : l.length % 2 = 0) (hg : good l = true) : decHok l = true ∧ decHs l = dec l := by
  have : decHok l = true := by unfold decHok; rw [hg, decide_eq_true h]; rfl
  exact ⟨this, by unfold decHs; rw [this]; rfl⟩
theorem hvi_neg {n : Nat} (h : ¬ hval n < 16) : hvi n = -1 := by unfold hvi; rw [if_neg h]
theorem hvi_pos {n : Nat} (h : hval n < 16) : hvi n = hval n := by unfold hvi; rw [if_pos h]
end Go.Proofs.YtgjebjoaemeeoaaGreatDoor.kit
namespace Go.Proofs.YtgjebjoaemeeoaaGreatDoor.kit
open Go.ChangeShapes Go.WideShapes Go.ChangeAt Go.RowKit
set_option linter.unusedVariables false

theorem hexStr_low : ∀ (k : Nat), k < 16 → ∃ b : UInt8, hexStr[k]? = some b ∧ b.toNat < 128 := fun k hk => ⟨_, hexStr_at k hk, by revert k; decide +kernel⟩
set_option maxRecDepth 100000 in
theorem indexRune_bad (r : Int) (w : World) (h : 128 ≤ r) (h2 : Lib.validRune r = false) (h3 : (r == 65533) = false) :
    Calls Tryz.prog 107 #[.string hexStr, .int .i32 r] w fun e w' => e = .returned (.int .i64 (-1)) ∧ Below w.heap.size w w' := by
  have c1 := Lib.hid (Tryz.utf8_ValidRune r)
  rw [h2] at c1
  have HV := Lib.hid h2
  clear h2
  go_enter Tryz.func107, Tryz.ntmps107
  go_wp2_with (go_at_call 124; refine ((c1.out) _).mono ?_; rintro e w' ⟨rfl, rfl⟩)
  go_ret
  exact ⟨rfl, Below.refl _ _⟩
theorem hex_at {pos : Nat} (hp : pos < hexStr.size) : (hexStr[pos]'hp).toNat < 128 := by
  obtain ⟨b, hb, hlt⟩ := hexStr_low pos hp
  rw [ByteArray.getElem?_lt' _ _ hp] at hb
  rw [Option.some.inj hb]; exact hlt
set_option maxRecDepth 100000 in
theorem indexRune_err (w : World) :
    Calls Tryz.prog 107 #[.string hexStr, .int .i32 65533] w fun e w' => e = .returned (.int .i64 (-1)) ∧ Below w.heap.size w w' := by
  go_enter Tryz.func107, Tryz.ntmps107
  go_wp2_with fail
  go_loopw [5, 6] (fun _ _ wr => ∃ pos : Nat, wr = w.iter hexStr pos) (fun _ _ wr => hexStr.size - wr.iterPos w.heap.size)
  case atStart => exact ⟨0, rfl⟩
  case round =>
    obtain ⟨pos, rfl⟩ := hrel
    by_cases hp : pos < hexStr.size
    · have hlt := hex_at hp
      have hnx : ∀ ty, (Instr.next (.pointer (some ⟨w.heap.size, 0, none⟩)) true ty).run Tryz.prog (w.iter hexStr pos) = _ := fun ty => run_next_ascii w hexStr pos ty hp hlt
      have g1 : (((hexStr[pos]'hp).toNat : Int) == 65533) = false := by rw [beq_eq_false_iff_ne]; omega
      go_wp2_with fail
      go_roundw
      case rel => exact ⟨pos + 1, rfl⟩
      case measure => simp; omega
    · have hnx : ∀ ty, (Instr.next (.pointer (some ⟨w.heap.size, 0, none⟩)) true ty).run Tryz.prog (w.iter hexStr pos) = _ := fun ty => run_next_end w hexStr pos ty hp
      go_wp2_with fail
      go_ret
      exact ⟨rfl, (Below.refl _ _).alloc (Nat.le_refl _) _⟩
theorem indexByte_none : ∀ (l : List UInt8) (c : UInt8), (∀ b ∈ l, b ≠ c) → Lib.indexByte l c = -1
  | [], _, _ => rfl
  | b :: l, c, h => by
    have h1 : (b == c) = false := by simpa using h b (by simp)
    have h2 := indexByte_none l c (fun x hx => h x (by simp [hx]))
    simp [Lib.indexByte, h1, h2]
theorem hex_bytes : ∀ b ∈ hexStr.data.toList, b.toNat < 128 := by decide +kernel
set_option maxRecDepth 100000 in
theorem indexRune_wide (r : Int) (w : World) (h : 128 ≤ r) (h2 : Lib.validRune r = true) (h3 : (r == 65533) = false) :
    Calls Tryz.prog 107 #[.string hexStr, .int .i32 r] w fun e w' => e = .returned (.int .i64 (-1)) ∧ Below w.heap.size w w' := by
  have c1 := Lib.hid (Tryz.utf8_ValidRune r)
  rw [h2] at c1
  have hf := encode_facts r (by rw [Go.validRune_eq]; unfold Go.validRune; unfold Lib.validRune at h2; simpa using h2) h
  have HV := Lib.hid h2
  clear h2
  obtain ⟨t, ht⟩ : ∃ t, t = Utf8.encode r := ⟨_, rfl⟩
  rw [← ht] at hf
  obtain ⟨h4, h5, h6⟩ := hf
  have HT := Lib.hid ht.symm
  have h7 := h6 (by omega)
  clear h6
  obtain ⟨L, hL⟩ : ∃ L, t.size = L + 1 := ⟨t.size - 1, by omega⟩
  have q6 : L < t.size := by omega
  have h8 : 128 ≤ (t[L]'q6).toNat := by
    have e : t.size - 1 = L := by omega
    simpa only [e] using h7
  clear h7
  have q4 : L < hexStr.size := by show L < 16; omega
  have q5 := hex_at q4
  have q41 : (L : Int) < (hexStr.size : Int) := by omega
  have q42 : (L : Int) < (t.size : Int) := by omega
  have henc : ∀ W : World, (convert 21 9 (.int .i32 r)).run Tryz.prog W = .ok (.string t) W := fun W => by
    rw [← HT.out]
    exact run_convert_int_string W _ _ _ _ (by kernel_rfl) Tryz.underlying9
  clear ht
  go_enter Tryz.func107, Tryz.ntmps107
  go_wp2_with (go_at_call 124; refine ((c1.out) _).mono ?_; rintro e w' ⟨rfl, rfl⟩)
  go_step3
  go_wp2_with fail
  refine wp_loop_rounds 1 ?_
  rw [rounds_succ]
  have g1 : (((hexStr[L]'q4).toNat : Int) == (t[L]'q6).toNat) = false := by rw [beq_eq_false_iff_ne]; omega
  have g2 : (((hexStr[L]'q4).toNat : Int) != (t[L]'q6).toNat) = true := by rw [bne_iff_ne]; omega
  go_wp2_with fail
  go_step3
  go_wp2_with fail
  have HL := Lib.hid hL
  clear hL
  go_quiet (fail)
  go_wp2_with fail
  have c3 : ∀ W, Calls Tryz.prog 123 #[.string (hexStr.extract (L + 1) hexStr.size), .int .u8 ((t[L]'q6).toNat : Int)] W fun e w' => e = .returned (.int .i64 (-1)) ∧ w' = W := fun W => by
    have h := Tryz.strings_IndexByte (hexStr.extract (L + 1) hexStr.size) ((t[L]'q6).toNat : Int) W
    rw [indexByte_none] at h
    · exact h
    · intro b hb hbc
      have := hex_bytes b (mem_extract hb)
      have e : ((t[L]'q6).toNat : Int).toNat.toUInt8 = t[L]'q6 := by simp
      rw [e] at hbc
      subst hbc
      omega
  have C3 := fun W => Lib.hid (c3 W)
  clear c3
  have q11 : (L : Int) + 1 ≤ (hexStr.size : Int) := by omega
  have q12 : (0 : Int) ≤ (L : Int) + 1 := by omega
  have q13 : ((L : Int) + 1).toNat = L + 1 := by omega
  have q14 : IntKind.i64.wrap ((L : Int) + 1) = (L : Int) + 1 := IntWalk.i64_in _ (by have : hexStr.size = 16 := rfl; omega)
  go_region_with (go_at_call 123; refine ((C3 _).out).mono ?_; rintro e w' ⟨rfl, rfl⟩)
  clear q11 q12 q13 q14
  go_wp2_with fail
  rw [Exit.noGoto_ret]
  go_simp
  go_ret
  exact ⟨rfl, below_drewN (Below.refl _ _) _⟩
theorem indexByte_hex : ∀ n : Nat, n < 128 → Lib.indexByte hexStr.data.toList (UInt8.ofNat n) = hvi n := by decide +kernel
/-- the digit's value for every rune from 0 on: -1 where the rune is no digit -/
theorem indexRune_hex (r : Nat) (w : World) (h : r ≤ 2147483647) :
    Calls Tryz.prog 107 #[.string hexStr, .int .i32 r] w fun e w' => e = .returned (.int .i64 (hvi r)) ∧ Below w.heap.size w w' := by
  by_cases h1 : r < 128
  · refine (Tryz.strings_IndexRune_ascii hexStr r w (by omega) (by omega)).mono ?_
    rintro e w' ⟨rfl, rfl⟩
    refine ⟨?_, Below.refl _ _⟩
    have e : ((r : Int)).toNat.toUInt8 = UInt8.ofNat r := rfl
    rw [e, indexByte_hex r h1]
  · have e : hvi r = -1 := hvi_neg (by rw [hval_big (by omega)]; omega)
    rw [e]
    by_cases h2 : r = 65533
    · subst h2; exact indexRune_err w
    · have h3 : ((r : Int) == 65533) = false := by rw [beq_eq_false_iff_ne]; omega
      cases hv : Lib.validRune r with
      | true => exact indexRune_wide r w (by omega) hv h3
      | false => exact indexRune_bad r w (by omega) hv h3
end Go.Proofs.YtgjebjoaemeeoaaGreatDoor.kit
namespace Go.Proofs.YtgjebjoaemeeoaaGreatDoor.kit
open Go.ChangeShapes Go.WideShapes Go.ChangeAt Go.RowKit
set_option linter.unusedVariables false

theorem own_below {w w' : World} {base : Nat} {e : TypeId} {size : Nat} {v : Value} {n : Nat} {xs : List Value} (h : w.ownsRow base e size v n xs) (hb : Below w.heap.size w w') : w'.ownsRow base e size v n xs :=
  h.kept (row := none) ⟨hb.os, hb.tape, hb.output, hb.size, fun k hk _ => hb.block k hk⟩ (by cases v.ownBlock <;> simp)
theorem own_ne_iter {w : World} {base : Nat} {e : TypeId} {size : Nat} {v : Value} {n : Nat} {xs : List Value} (h : w.ownsRow base e size v n xs) {k : Nat} {s : ByteArray} {p : Nat} (hk : w.heap[k]? = some (.stringIter s p)) : v.ownBlock ≠ some k := by
  rcases h.2 with ⟨rfl, _⟩ | ⟨g, cap, cur, rfl, _, hg, _⟩
  · simp [Value.ownBlock]
  · intro e1
    have : g = k := by simpa [Value.ownBlock] using e1
    subst this
    rw [hg] at hk
    cases hk
theorem own_iterAt {w : World} {base : Nat} {e : TypeId} {size : Nat} {v : Value} {n : Nat} {xs : List Value} (h : w.ownsRow base e size v n xs) {k : Nat} {s : ByteArray} {p : Nat} (hk : w.heap[k]? = some (.stringIter s p)) (p' : Nat) : (w.iterAt k s p').ownsRow base e size v n xs :=
  h.kept (row := some k) ⟨rfl, rfl, rfl, by rw [Lib.iterAt_size]; exact Nat.le_refl _, fun i hi hne => Lib.iterAt_other w k i s p' (fun e1 => hne (by rw [e1]))⟩ (.inr (own_ne_iter h hk))
theorem iter_grown {w w' : World} {row : Option Nat} {k : Nat} {s : ByteArray} {p : Nat} (hk : w.heap[k]? = some (.stringIter s p)) (hg : w.grownBy w' row) (hne : row ≠ some k) : w'.heap[k]? = some (.stringIter s p) :=
  (hg.block k (Array.getElem?_eq_some_iff.1 hk).1 (fun e => hne e.symm)).trans hk
theorem good_take1 {l : List UInt8} {k : Nat} (hk : k < l.length) (h : ¬ hval (l[k]).toNat < 16) : good l = false := by
  refine good_take (k := k + 1) ?_
  rw [List.take_succ_eq_append_getElem hk, good_snoc, decide_eq_false h, Bool.and_false]
end Go.Proofs.YtgjebjoaemeeoaaGreatDoor.kit
namespace Go.Proofs.YtgjebjoaemeeoaaGreatDoor.kit
open Go.ChangeShapes Go.WideShapes Go.ChangeAt Go.RowKit
set_option linter.unusedVariables false

def pmStr : ByteArray := ⟨#[43, 45]⟩
theorem pmStr_low : ∀ (k : Nat), k < 2 → ∃ b : UInt8, pmStr[k]? = some b ∧ b.toNat < 128 := fun k hk => by
  match k, hk with
  | 0, _ => exact ⟨43, rfl, by decide⟩
  | 1, _ => exact ⟨45, rfl, by decide⟩
set_option maxRecDepth 100000 in
theorem pmRune_bad (r : Int) (w : World) (h : 128 ≤ r) (h2 : Lib.validRune r = false) (h3 : (r == 65533) = false) :
    Calls Tryz.prog 107 #[.string pmStr, .int .i32 r] w fun e w' => e = .returned (.int .i64 (-1)) ∧ Below w.heap.size w w' := by
  have c1 := Lib.hid (Tryz.utf8_ValidRune r)
  rw [h2] at c1
  have HV := Lib.hid h2
  clear h2
  go_enter Tryz.func107, Tryz.ntmps107
  go_wp2_with (go_at_call 124; refine ((c1.out) _).mono ?_; rintro e w' ⟨rfl, rfl⟩)
  go_ret
  exact ⟨rfl, Below.refl _ _⟩
theorem pm_at {pos : Nat} (hp : pos < pmStr.size) : (pmStr[pos]'hp).toNat < 128 := by
  obtain ⟨b, hb, hlt⟩ := pmStr_low pos hp
  rw [ByteArray.getElem?_lt' _ _ hp] at hb
  rw [Option.some.inj hb]; exact hlt
set_option maxRecDepth 100000 in
theorem pmRune_err (w : World) :
    Calls Tryz.prog 107 #[.string pmStr, .int .i32 65533] w fun e w' => e = .returned (.int .i64 (-1)) ∧ Below w.heap.size w w' := by
  go_enter Tryz.func107, Tryz.ntmps107
  go_wp2_with fail
  go_loopw [5, 6] (fun _ _ wr => ∃ pos : Nat, wr = w.iter pmStr pos) (fun _ _ wr => pmStr.size - wr.iterPos w.heap.size)
  case atStart => exact ⟨0, rfl⟩
  case round =>
    obtain ⟨pos, rfl⟩ := hrel
    by_cases hp : pos < pmStr.size
    · have hlt := pm_at hp
      have hnx : ∀ ty, (Instr.next (.pointer (some ⟨w.heap.size, 0, none⟩)) true ty).run Tryz.prog (w.iter pmStr pos) = _ := fun ty => run_next_ascii w pmStr pos ty hp hlt
      have g1 : (((pmStr[pos]'hp).toNat : Int) == 65533) = false := by rw [beq_eq_false_iff_ne]; omega
      go_wp2_with fail
      go_roundw
      case rel => exact ⟨pos + 1, rfl⟩
      case measure => simp; omega
    · have hnx : ∀ ty, (Instr.next (.pointer (some ⟨w.heap.size, 0, none⟩)) true ty).run Tryz.prog (w.iter pmStr pos) = _ := fun ty => run_next_end w pmStr pos ty hp
      go_wp2_with fail
      go_ret
      exact ⟨rfl, (Below.refl _ _).alloc (Nat.le_refl _) _⟩
theorem pm_bytes : ∀ b ∈ pmStr.data.toList, b.toNat < 128 := by decide +kernel
set_option maxRecDepth 100000 in
theorem pmRune_wide (r : Int) (w : World) (h : 128 ≤ r) (h2 : Lib.validRune r = true) (h3 : (r == 65533) = false) :
    Calls Tryz.prog 107 #[.string pmStr, .int .i32 r] w fun e w' => e = .returned (.int .i64 (-1)) ∧ Below w.heap.size w w' := by
  have c1 := Lib.hid (Tryz.utf8_ValidRune r)
  rw [h2] at c1
  have hf := encode_facts r (by rw [Go.validRune_eq]; unfold Go.validRune; unfold Lib.validRune at h2; simpa using h2) h
  have HV := Lib.hid h2
  clear h2
  obtain ⟨t, ht⟩ : ∃ t, t = Utf8.encode r := ⟨_, rfl⟩
  rw [← ht] at hf
  obtain ⟨h4, h5, h6⟩ := hf
  have HT := Lib.hid ht.symm
  have h7 := h6 (by omega)
  clear h6
  obtain ⟨L, hL⟩ : ∃ L, t.size = L + 1 := ⟨t.size - 1, by omega⟩
  have q6 : L < t.size := by omega
  have h8 : 128 ≤ (t[L]'q6).toNat := by
    have e : t.size - 1 = L := by omega
    simpa only [e] using h7
  clear h7
  have henc : ∀ W : World, (convert 21 9 (.int .i32 r)).run Tryz.prog W = .ok (.string t) W := fun W => by
    rw [← HT.out]
    exact run_convert_int_string W _ _ _ _ (by kernel_rfl) Tryz.underlying9
  by_cases q4 : L < pmStr.size
  case neg =>
    have q0 : pmStr.size = 2 := rfl
    have n1 : decide (L < pmStr.size) = false := decide_eq_false q4
    have n2 : ¬ ((L : Int) < (pmStr.size : Int)) := by omega
    clear ht
    go_enter Tryz.func107, Tryz.ntmps107
    go_wp2_with (go_at_call 124; refine ((c1.out) _).mono ?_; rintro e w' ⟨rfl, rfl⟩)
    go_step3
    go_wp2_with fail
    refine wp_loop_rounds 1 ?_
    rw [rounds_succ]
    go_wp2_with fail
    rw [Exit.noGoto_ret]
    go_simp
    go_ret
    exact ⟨rfl, Below.refl _ _⟩
  have q5 := pm_at q4
  have q41 : (L : Int) < (pmStr.size : Int) := by omega
  have q42 : (L : Int) < (t.size : Int) := by omega
  clear ht
  go_enter Tryz.func107, Tryz.ntmps107
  go_wp2_with (go_at_call 124; refine ((c1.out) _).mono ?_; rintro e w' ⟨rfl, rfl⟩)
  go_step3
  go_wp2_with fail
  refine wp_loop_rounds 1 ?_
  rw [rounds_succ]
  have g1 : (((pmStr[L]'q4).toNat : Int) == (t[L]'q6).toNat) = false := by rw [beq_eq_false_iff_ne]; omega
  have g2 : (((pmStr[L]'q4).toNat : Int) != (t[L]'q6).toNat) = true := by rw [bne_iff_ne]; omega
  go_wp2_with fail
  go_step3
  go_wp2_with fail
  have HL := Lib.hid hL
  clear hL
  go_quiet (fail)
  go_wp2_with fail
  have c3 : ∀ W, Calls Tryz.prog 123 #[.string (pmStr.extract (L + 1) pmStr.size), .int .u8 ((t[L]'q6).toNat : Int)] W fun e w' => e = .returned (.int .i64 (-1)) ∧ w' = W := fun W => by
    have h := Tryz.strings_IndexByte (pmStr.extract (L + 1) pmStr.size) ((t[L]'q6).toNat : Int) W
    rw [indexByte_none] at h
    · exact h
    · intro b hb hbc
      have := pm_bytes b (mem_extract hb)
      have e : ((t[L]'q6).toNat : Int).toNat.toUInt8 = t[L]'q6 := by simp
      rw [e] at hbc
      subst hbc
      omega
  have C3 := fun W => Lib.hid (c3 W)
  clear c3
  have q11 : (L : Int) + 1 ≤ (pmStr.size : Int) := by omega
  have q12 : (0 : Int) ≤ (L : Int) + 1 := by omega
  have q13 : ((L : Int) + 1).toNat = L + 1 := by omega
  have q14 : IntKind.i64.wrap ((L : Int) + 1) = (L : Int) + 1 := IntWalk.i64_in _ (by have : pmStr.size = 2 := rfl; omega)
  go_region_with (go_at_call 123; refine ((C3 _).out).mono ?_; rintro e w' ⟨rfl, rfl⟩)
  clear q11 q12 q13 q14
  go_wp2_with fail
  rw [Exit.noGoto_ret]
  go_simp
  go_ret
  exact ⟨rfl, below_drewN (Below.refl _ _) _⟩
/-- a rune of 128 and above is no sign -/
theorem pmRune_high (r : Int) (w : World) (h : 128 ≤ r) :
    Calls Tryz.prog 107 #[.string pmStr, .int .i32 r] w fun e w' => e = .returned (.int .i64 (-1)) ∧ Below w.heap.size w w' := by
  by_cases h2 : r = 65533
  · subst h2; exact pmRune_err w
  · have h3 : (r == 65533) = false := by rw [beq_eq_false_iff_ne]; exact h2
    cases hv : Lib.validRune r with
    | true => exact pmRune_wide r w h hv h3
    | false => exact pmRune_bad r w h hv h3
end Go.Proofs.YtgjebjoaemeeoaaGreatDoor.kit
namespace Go.Proofs.YtgjebjoaemeeoaaGreatDoor.kit
open Go.ChangeShapes Go.WideShapes Go.ChangeAt Go.RowKit
set_option linter.unusedVariables false
set_option linter.unusedSimpArgs false

theorem any_none : ∀ {l : List UInt8}, (∀ b ∈ l, b ≠ 43 ∧ b ≠ 45) → Lib.indexAny l [43, 45] = -1
  | [], _ => rfl
  | a :: l, h => by
    have ih := any_none (l := l) (fun b hb => h b (List.mem_cons_of_mem _ hb))
    have ha := h a (by simp)
    have hc : ([43, 45] : List UInt8).contains a = false := by simp [ha.1, ha.2]
    rw [Lib.indexAny, hc, ih]
    rfl
/-- no sign among the first k bytes -/
def noSign (s : ByteArray) (k : Nat) : Prop := ∀ b ∈ s.data.toList.take k, b ≠ 43 ∧ b ≠ 45
theorem noSign_hit {s : ByteArray} {k : Nat} (hk : k < s.size) (h : noSign s k) (hb : s[k] = 43 ∨ s[k] = 45) : Lib.indexAny s.data.toList [43, 45] = (k : Int) := by
  have hl : k < s.data.toList.length := by rw [Array.length_toList]; exact hk
  have e : s.data.toList = s.data.toList.take k ++ s[k] :: s.data.toList.drop (k + 1) := by
    conv => lhs; rw [← List.take_append_drop k s.data.toList, List.drop_eq_getElem_cons hl]
    rfl
  have hlk : (s.data.toList.take k).length = k := by rw [List.length_take, Array.length_toList]; exact Nat.min_eq_left (Nat.le_of_lt hk)
  rw [e, any_app (fun h' => (h 43 h').1 rfl) (fun h' => (h 45 h').2 rfl) hb, hlk]
theorem noSign_one {s : ByteArray} {k : Nat} (hk : k < s.size) (h : noSign s k) (hb : s[k] ≠ 43 ∧ s[k] ≠ 45) : noSign s (k + 1) := by
  have hl : k < s.data.toList.length := by rw [Array.length_toList]; exact hk
  intro b hm
  rw [List.take_succ_eq_append_getElem hl, List.mem_append] at hm
  rcases hm with hm | hm
  · exact h b hm
  · simp only [List.mem_cons, List.not_mem_nil, or_false] at hm
    rw [hm]
    exact hb
set_option maxRecDepth 100000 in
theorem decode_bytes (s : ByteArray) (pos : Nat) (h : pos < s.size) (ha : 128 ≤ (s[pos]'h).toNat) : ∀ j, j < (Utf8.decode s pos).2 → pos + j < s.size ∧ 128 ≤ (s.get! (pos + j)).toNat := by
  have hn : ¬ (s[pos]'h).toNat < 128 := by omega
  have h0 : 128 ≤ (s.get! (pos + 0)).toNat := by rw [get_at s pos h]; exact ha
  have hd : (Utf8.decode s pos).2 ≤ 4 := by
    simp only [Utf8.decode, get_at s pos h, hn, if_false]
    repeat' split
    all_goals simp
  intro j hj
  have hj4 : j = 0 ∨ j = 1 ∨ j = 2 ∨ j = 3 := by omega
  simp only [Utf8.decode, get_at s pos h, hn, if_false] at hj
  revert hj
  repeat' split
  all_goals (intro hj; rcases hj4 with rfl | rfl | rfl | rfl)
  all_goals first
    | (exact ⟨h, h0⟩)
    | (simp at hj; done)
    | (simp_all; omega)
theorem noSign_wide {s : ByteArray} {k d : Nat} (h : noSign s k) (hd : ∀ j, j < d → k + j < s.size ∧ 128 ≤ (s.get! (k + j)).toNat) : ∀ j, j ≤ d → noSign s (k + j) := by
  intro j
  induction j with
  | zero => intro _; exact h
  | succ j ih =>
    intro hj
    obtain ⟨h1, h2⟩ := hd j (by omega)
    have e : s.get! (k + j) = s[k + j] := get_at s (k + j) h1
    rw [e] at h2
    have n1 : s[k + j] ≠ 43 := fun e => by rw [e] at h2; revert h2; decide
    have n2 : s[k + j] ≠ 45 := fun e => by rw [e] at h2; revert h2; decide
    exact noSign_one h1 (ih (by omega)) ⟨n1, n2⟩
theorem noSign_all {s : ByteArray} {k : Nat} (hk : s.size ≤ k) (h : noSign s k) : Lib.indexAny s.data.toList [43, 45] = -1 := by
  refine any_none (fun b hb => h b ?_)
  rw [List.take_of_length_le (by rw [Array.length_toList]; exact hk)]
  exact hb
set_option maxRecDepth 100000 in
theorem indexAny_short (s : ByteArray) (w : World) (h8 : s.size ≤ 8) :
    Calls Tryz.prog 87 #[.string s, .string pmStr] w fun e w' => e = .returned (.int .i64 (Lib.indexAny s.data.toList [43, 45])) ∧ Below w.heap.size w w' := by
  have g8 : decide (8 < s.size) = false := decide_eq_false (by omega)
  go_enter Tryz.func87, Tryz.ntmps87
  have f1 : pmStr.toList.isEmpty = false := by rw [ByteArray.toList_eq]; rfl
  have f2 : ((pmStr.size : Int) == 1) = false := rfl
  go_wp2_with (go_at_call 108; go_enter Tryz.func108, Tryz.ntmps108)
  go_loopw [4] (fun v wr => ∃ k : Nat, k ≤ s.size ∧ v = .int .i64 0 ∧ wr.heap[w.heap.size]? = some (.stringIter s k) ∧ Hid (noSign s k) ∧ Below w.heap.size w wr) (fun _ wr => s.size - wr.iterPos w.heap.size)
  case atStart =>
    refine ⟨0, Nat.zero_le _, rfl, ?_, Lib.hid (fun b hb => by simp at hb), (Below.refl _ _).alloc (Nat.le_refl _) _⟩
    have h := World.iter_heap w s 0
    simpa using h
  case round =>
    obtain ⟨k, hk, rfl, hit, hns, hb⟩ := hrel
    have HIT := Lib.hid hit
    have HPOS : Hid (wr.iterPos w.heap.size = k) := Lib.hid (iterPos_of hit)
    have hK : w.heap.size < wr.heap.size := (Array.getElem?_eq_some_iff.1 hit).1
    clear hit
    by_cases hlt : k < s.size
    · by_cases hlow : s[k].toNat < 128
      · have hnx := fun ty => Lib.run_next_ascii_at (P := Tryz.prog) wr w.heap.size s k ty HIT.out hlt hlow
        have HITA := Lib.hid (Lib.iterAt_heap wr w.heap.size s k (k + 1) HIT.out)
        have hbA := Lib.below_iterAt hb (Nat.le_refl _) s (k + 1)
        by_cases hs : s[k] = 43 ∨ s[k] = 45
        · have HF := Lib.hid (noSign_hit hlt hns.out hs)
          obtain ⟨q, hq1, hq⟩ : ∃ q : Nat, q ≤ 1 ∧ Lib.indexByte pmStr.data.toList ((s[k].toNat : Int)).toNat.toUInt8 = (q : Int) := by
            rcases hs with e | e
            · rw [e]; exact ⟨0, by omega, by decide⟩
            · rw [e]; exact ⟨1, by omega, by decide⟩
          have c1 := fun W => Tryz.strings_IndexRune_ascii pmStr (s[k].toNat : Int) W (by omega) (by omega)
          rw [hq] at c1
          have C1 := fun W => Lib.hid (c1 W)
          have q0 : (0 : Int) ≤ (q : Int) := by omega
          clear c1 hq hs
          go_wp2_with (go_at_call 107; refine ((C1 _).out).mono ?_; rintro e w1 ⟨rfl, rfl⟩)
          go_ret
          exact ⟨by rw [HF.out]; rfl, hbA⟩
        · have HN := Lib.hid (noSign_one hlt hns.out (by constructor <;> (intro e; exact hs (by simp [e]))))
          have hq : Lib.indexByte pmStr.data.toList ((s[k].toNat : Int)).toNat.toUInt8 = -1 := by
            refine indexByte_none _ _ (fun b hb e => hs ?_)
            have e2 : ((s[k].toNat : Int)).toNat.toUInt8 = s[k] := by simp
            rw [e2] at e
            have hb2 : b = 43 ∨ b = 45 := by
              have : b ∈ ([43, 45] : List UInt8) := hb
              simpa using this
            rw [← e]; exact hb2
          have c1 := fun W => Tryz.strings_IndexRune_ascii pmStr (s[k].toNat : Int) W (by omega) (by omega)
          rw [hq] at c1
          have C1 := fun W => Lib.hid (c1 W)
          clear c1 hq hs
          go_wp2_with (go_at_call 107; refine ((C1 _).out).mono ?_; rintro e w1 ⟨rfl, rfl⟩)
          go_roundw
          case rel => exact ⟨k + 1, by omega, rfl, HITA.out, HN, hbA⟩
          case measure => rw [HPOS.out, iterPos_of HITA.out]; omega
      · have hdb := decode_bytes s k hlt (by omega)
        have hnx := fun ty => Lib.run_next_any_at (P := Tryz.prog) wr w.heap.size s k ty HIT.out hlt
        have hd1 := decode_high s k hlt (by omega)
        obtain ⟨d, hd⟩ : ∃ d, d = Utf8.decode s k := ⟨_, rfl⟩
        simp only [← hd] at hnx hd1 hdb
        clear hd
        obtain ⟨r, n⟩ := d
        simp only at hnx hd1 hdb
        have hle := (hdb (n - 1) (by omega)).1
        have HN := Lib.hid (noSign_wide hns.out hdb n (Nat.le_refl _))
        have HITA := Lib.hid (Lib.iterAt_heap wr w.heap.size s k (k + n) HIT.out)
        have hbA := Lib.below_iterAt hb (Nat.le_refl _) s (k + n)
        have C1 := fun W => Lib.hid (pmRune_high (r : Int) W (by omega))
        have HZ := Lib.hid hbA.size
        clear hdb
        go_wp2_with (go_at_call 107; refine ((C1 _).out).mono ?_; rintro e w1 ⟨rfl, hb1⟩)
        have HIT1 := Lib.hid ((hb1.block _ (by rw [Lib.iterAt_size]; exact hK)).trans HITA.out)
        go_roundw
        case rel => exact ⟨k + n, by omega, rfl, HIT1.out, HN, hbA.trans (hb1.mono HZ.out)⟩
        case measure => rw [HPOS.out, iterPos_of HIT1.out]; omega
    · obtain rfl : k = s.size := by omega
      have hnx := fun ty => Lib.run_next_end_at (P := Tryz.prog) wr w.heap.size s s.size ty HIT.out hlt
      have HF := Lib.hid (noSign_all (Nat.le_refl _) hns.out)
      go_wp2_with fail
      go_ret
      exact ⟨by rw [HF.out]; rfl, hb⟩
theorem indexAnyPM (s : ByteArray) (w : World) (hs : s.size ≤ 1048576) :
    Calls Tryz.prog 87 #[.string s, .string pmStr] w fun e w' => e = .returned (.int .i64 (Lib.indexAny s.data.toList [43, 45])) ∧ Below w.heap.size w w' := by
  by_cases h8 : s.size ≤ 8
  · exact indexAny_short s w h8
  · refine (Tryz.strings_IndexAny_long (zero_of_info (n := 256) (by kernel_rfl)).1 s pmStr w (by decide) (by omega) (by omega) (by decide) (fun j b hb => ?_)).mono ?_
    · have hm : b ∈ ([43, 45] : List UInt8) := List.mem_of_getElem? hb
      simp only [List.mem_cons, List.not_mem_nil, or_false] at hm
      rcases hm with rfl | rfl <;> decide
    · rintro e w' ⟨rfl, rfl⟩
      exact ⟨rfl, ((Below.refl _ _).alloc (Nat.le_refl _) _).alloc (by simp) _⟩
end Go.Proofs.YtgjebjoaemeeoaaGreatDoor.kit
namespace Go.Proofs.YtgjebjoaemeeoaaGreatDoor.kit
open Go.ChangeShapes Go.WideShapes Go.ChangeAt Go.RowKit
set_option linter.unusedVariables false
set_option linter.unusedSimpArgs false

theorem cutAtM (b : List UInt8) (w : World) (h : b.length ≤ 1048576) (hM : Mx w) :
    Calls Tryz.prog 34 #[str b, .string ⟨#[46]⟩] w fun e w' => e = .returned (.tuple #[str (Lib.cut b [46]).1, str (Lib.cut b [46]).2.1, .bool (Lib.cut b [46]).2.2]) ∧ Below w.heap.size w w' := by
  obtain ⟨m, hm⟩ := hM
  refine (Tryz.strings_Cut ⟨b.toArray⟩ ⟨#[46]⟩ m w (by rw [size_mk]; omega) hm).mono ?_
  rintro e w' ⟨rfl, n, rfl⟩
  exact ⟨rfl, below_drewN (Below.refl _ _) _⟩
def pxV (p : List UInt8) : Value := sessV (if pxOk p = true then px p else (0, 0, false, 0))
theorem pxV_no {p : List UInt8} (h : pxOk p = false) : pxV p = .agg #[.int .i64 0, .int .i64 0, .bool false, .int .i64 0] := by unfold pxV; rw [h]; rfl
theorem pxV_yes {p : List UInt8} (h : pxOk p = true) : pxV p = sessV (px p) := by unfold pxV; rw [if_pos h]
set_option maxRecDepth 100000 in
set_option maxHeartbeats 8000000 in
theorem implParseSession (p : List UInt8) (w : World) (hp : p.length ≤ 1048576) (hT : Tab w) (hM : Mx w) :
    Calls Tryz.prog 52 #[str p] w fun e w' => e = .returned (.tuple #[pxV p, .bool (pxOk p)]) ∧ Below w.heap.size w w' := by
  obtain ⟨W, hW⟩ : ∃ W, W = w.alloc (.cells #[.int .i64 0, .int .i64 0, .bool false, .int .i64 0] 98) := ⟨_, rfl⟩
  have hB : Below w.heap.size w W := by rw [hW]; exact (Below.refl _ _).alloc (Nat.le_refl _) _
  have HR := Lib.hid (show BoxC W w.heap.size 98 #[.int .i64 0, .int .i64 0, .bool false, .int .i64 0] by rw [hW]; exact BoxC.new _ _ _)
  have HB := Lib.hid hB
  have HW := Lib.hid hW
  have HT := Lib.hid hT
  have HM := Lib.hid hM
  have hc := cut_len p
  have jc := fun W' (h : Mx W') => cutAtM p W' hp h
  have HE := Lib.hid (show pxOk p = (decide (0 ≤ Lib.indexAny (restX p) [43, 45]) && (parOk (Lib.cut p [46]).1 && (parOk ((restX p).take (Lib.indexAny (restX p) [43, 45]).toNat) && parOk ((restX p).drop ((Lib.indexAny (restX p) [43, 45]).toNat + 1))))) from rfl)
  have HV := Lib.hid (show px p = (parN (Lib.cut p [46]).1, parN ((restX p).take (Lib.indexAny (restX p) [43, 45]).toNat), (restX p).getD (Lib.indexAny (restX p) [43, 45]).toNat 0 == 43, parN ((restX p).drop ((Lib.indexAny (restX p) [43, 45]).toNat + 1))) from rfl)
  have HG := fun h => any_at (l := restX p) h
  have ja := fun W' => indexAnyPM ⟨(restX p).toArray⟩ W' (by rw [size_mk]; unfold restX; omega)
  simp only at ja
  rw [show (Lib.cut p [46]).2.1 = restX p from rfl] at jc hc
  generalize (Lib.cut p [46]).2.2 = pf at *
  generalize (Lib.cut p [46]).1 = pa at *
  generalize restX p = rs at *
  generalize Lib.indexAny rs [43, 45] = sg0 at *
  unfold pmStr at ja
  have JC := Lib.hid jc
  have JA := Lib.hid ja
  have hla : pa.length ≤ 1048576 := by omega
  have hlr : rs.length ≤ 1048576 := by omega
  clear hB hW hT hM jc ja hc
  go_enter Tryz.func52, Tryz.ntmps52
  go_wp2_with fail
  rw [← HW.out]
  refine (JC.out _ (HM.out.below HB.out)).mono ?_
  rintro e w1 ⟨rfl, hb⟩
  replace HR := Lib.hid (HR.out.later hb)
  replace HB := Lib.hid (HB.out.trans (hb.mono HB.out.size))
  clear hb HW JC
  go_wp2_with fail
  refine (JA.out _).mono ?_
  rintro e w2 ⟨rfl, hb⟩
  replace HR := Lib.hid (HR.out.later hb)
  replace HB := Lib.hid (HB.out.trans (hb.mono HB.out.size))
  clear hb JA
  by_cases h0 : 0 ≤ sg0
  · obtain ⟨k, hk, hkl, hb⟩ := HG h0
    subst hk
    obtain ⟨rb, rfl⟩ : ∃ rb : ByteArray, rs = rb.data.toList := ⟨⟨rs.toArray⟩, by simp⟩
    have hlb : rb.data.toList.length = rb.size := by rw [Array.length_toList]; rfl
    rw [hlb] at hkl hlr
    have E1 := Lib.hid (show Value.string (rb.extract 0 k) = str (rb.data.toList.take k) by rw [ext_str]; simp)
    have E2 := Lib.hid (show Value.string (rb.extract (k + 1) rb.size) = str (rb.data.toList.drop (k + 1)) by rw [ext_str, List.take_of_length_le (by rw [List.length_drop, hlb]; exact Nat.le_refl _)])
    have k1 : (0 : Int) ≤ (k : Int) := by omega
    have k2 : (k : Int) ≤ (rb.size : Int) := by omega
    have k3 : (k : Int) + 1 ≤ (rb.size : Int) := by omega
    have k4 : (0 : Int) ≤ (k : Int) + 1 := by omega
    have k5 : ((k : Int) + 1).toNat = k + 1 := by omega
    have k6 : IntKind.i64.wrap ((k : Int) + 1) = (k : Int) + 1 := IntWalk.i64_in _ (by omega)
    have k7 : k ≤ rb.size := by omega
    have k8 : k + 1 ≤ rb.size := by omega
    have hbL : Below w2.heap.size w2 (w2.alloc (.cells #[str pa, .string (rb.extract 0 k), .string (rb.extract (k + 1) rb.size)] 9)).drew := ((Below.refl _ _).alloc (Nat.le_refl _) _).drew
    have hat : AtP (w2.alloc (.cells #[str pa, .string (rb.extract 0 k), .string (rb.extract (k + 1) rb.size)] 9)).drew (some ⟨w2.heap.size, 0, none⟩) [pa, rb.data.toList.take k, rb.data.toList.drop (k + 1)] := fun j hj => by
      refine ⟨_, rfl, by show w2.heap.size < (w2.alloc _).heap.size; simp, ?_⟩
      have hadd : (⟨w2.heap.size, 0, none⟩ : Addr).add j = ⟨w2.heap.size, j, none⟩ := by unfold Addr.add; split <;> simp_all
      show (w2.alloc _).cell? _ = _
      rw [hadd, World.cell?_alloc_at _ _ _ _ rfl, E1.out, E2.out]
      match j, hj with
      | 0, _ => rfl
      | 1, _ => rfl
      | 2, _ => rfl
    have HBL := Lib.hid (HB.out.trans (hbL.mono HB.out.size))
    have PI := Lib.hid (parseInts (some ⟨w2.heap.size, 0, none⟩) 3 3 [pa, rb.data.toList.take k, rb.data.toList.drop (k + 1)] _ rfl (by omega)
      (fun j => by match j with
        | 0 => exact hla
        | 1 => show (rb.data.toList.take k).length ≤ _; rw [List.length_take]; omega
        | 2 => show (rb.data.toList.drop (k + 1)).length ≤ _; rw [List.length_drop]; omega
        | (n + 3) => simp) hat (HT.out.below HBL.out))
    have HLL := Lib.hid hbL
    clear hat hbL
    have g0 : decide ((k : Int) < 0) = false := decide_eq_false (by omega)
    go_upto_region 5 with (fail)
    go_cut [8, 9] (fun b c wx => ∃ v, b = v ∧ c = .bool (allPar [pa, rb.data.toList.take k, rb.data.toList.drop (k + 1)]) ∧ OwnI w.heap.size wx v (numsOf [pa, rb.data.toList.take k, rb.data.toList.drop (k + 1)]) ∧ Below w2.heap.size w2 wx)
    case first =>
      go_region_with (go_at_call 35; refine PI.out.mono ?_; rintro e w3 ⟨v, rfl, ho, hb⟩)
      all_goals
        go_wp2_with fail
        go_meet
        exact ⟨v, rfl, rfl, OwnI.mono ho HBL.out.size, HLL.out.trans (hb.mono HLL.out.size)⟩
    case rest =>
      obtain ⟨v, rfl, rfl, ho, hb⟩ := hcut
      replace HR := Lib.hid (HR.out.later hb)
      replace HB := Lib.hid (HB.out.trans (hb.mono HB.out.size))
      clear hb PI HLL HBL
      have hall : allPar [pa, rb.data.toList.take k, rb.data.toList.drop (k + 1)] = (parOk pa && (parOk (rb.data.toList.take k) && parOk (rb.data.toList.drop (k + 1)))) := by simp [allPar]
      rw [Int.toNat_natCast] at HE HV
      have HE2 := Lib.hid (show pxOk p = allPar [pa, rb.data.toList.take k, rb.data.toList.drop (k + 1)] by rw [HE.out, hall, decide_eq_true (show (0 : Int) ≤ (k : Int) by omega), Bool.true_and])
      cases ha : allPar [pa, rb.data.toList.take k, rb.data.toList.drop (k + 1)] with
      | false =>
        rw [ha] at HE2
        have HF := Lib.hid HE2.out
        obtain ⟨y, q, rfl⟩ := ho.shape
        clear hall ha ho
        have r0 := HR.out.c 0 rfl
        have r1 := HR.out.c 1 rfl
        have r2 := HR.out.c 2 rfl
        have r3 := HR.out.c 3 rfl
        have f0 := HR.out.f 0
        have f1 := HR.out.f 1
        have f2 := HR.out.f 2
        have f3 := HR.out.f 3
        go_wp2_with fail
        refine bodyPost_ret (v := .tuple #[.agg #[.int .i64 0, .int .i64 0, .bool false, .int .i64 0], .bool false]) (by simp [results, Tryz.results52, go_sem, r0, r1, r2, r3]) rfl ?_
        exact ⟨by rw [pxV_no HF.out, HF.out], (((HB.out.setCell (p := ⟨w.heap.size, 0, none⟩) (Nat.le_refl _) _).setCell (p := ⟨w.heap.size, 1, none⟩) (Nat.le_refl _) _).setCell (p := ⟨w.heap.size, 2, none⟩) (Nat.le_refl _) _).setCell (p := ⟨w.heap.size, 3, none⟩) (Nat.le_refl _) _⟩
      | true =>
        have hnum : numsOf [pa, rb.data.toList.take k, rb.data.toList.drop (k + 1)] = [parN pa, parN (rb.data.toList.take k), parN (rb.data.toList.drop (k + 1))] := by unfold numsOf; rw [ha]; rfl
        rw [ha] at HE2
        rw [hnum] at ho
        obtain ⟨g, cp, rfl, hc3, hcm, hc3', hc0, hc1, hc2⟩ := ho.three
        generalize parN pa = n0 at *
        generalize parN (rb.data.toList.take k) = n1 at *
        generalize parN (rb.data.toList.drop (k + 1)) = n2 at *
        have hbk : rb.data.toList.getD k 0 = rb[k] := by
          have hl : k < rb.data.toList.length := by rw [hlb]; exact hkl
          rw [List.getD_eq_getElem?_getD, List.getElem?_eq_getElem hl]
          rfl
        rw [hbk] at HV hb
        have E3 := Lib.hid (show Value.string (rb.extract k (k + 1)) = str [rb[k]] by
          rw [ext_str, show k + 1 - k = 1 by omega]
          have hl : k < rb.data.toList.length := by rw [hlb]; exact hkl
          rw [List.drop_eq_getElem_cons hl]
          rfl)
        clear hall ha ho hnum hbk
        have r0 := HR.out.c 0 rfl
        have r1 := HR.out.c 1 rfl
        have r2 := HR.out.c 2 rfl
        have r3 := HR.out.c 3 rfl
        have f0 := HR.out.f 0
        have f1 := HR.out.f 1
        have f2 := HR.out.f 2
        have f3 := HR.out.f 3
        have w0 : (0 : Int) < 3 := by omega
        have w1' : (1 : Int) < 3 := by omega
        have w2' : (2 : Int) < 3 := by omega
        go_upto_region 8 with (fail)
        go_region
        have HS3 : Hid (((rb.extract k (k + 1)).toList == [43]) = (rb[k] == 43)) := Lib.hid (by
          have e : (rb.extract k (k + 1)).data.toList = [rb[k]] := by
            have := E3.out
            injection this with this
            rw [this]
          rw [ByteArray.toList_eq, e]
          simp)
        have hbA := ((Below.refl wc.heap.size wc).alloc (Nat.le_refl _) (.cells #[.bool ((rb.extract k (k + 1)).toList == [43]), .int .i64 n2] 96)).drew
        have HBW := Lib.hid HB.out
        have HRW := Lib.hid HR.out
        have hrl := HR.out.lt
        have hrn : w.heap.size ≠ wc.heap.size := Nat.ne_of_lt hrl
        have hrm : wc.heap.size ≠ w.heap.size := Nat.ne_of_gt hrl
        replace HR := Lib.hid (HR.out.later hbA)
        replace HB := Lib.hid (HB.out.trans (hbA.mono HB.out.size))
        have y0 := (hbA.cell (p := ⟨g, 0, none⟩) hc3').trans hc0
        have y1 := (hbA.cell (p := ⟨g, 1, none⟩) hc3').trans hc1
        have s0 := HR.out.c 0 rfl
        have s1 := HR.out.c 1 rfl
        have s2 := HR.out.c 2 rfl
        have s3 := HR.out.c 3 rfl
        have q0 := HR.out.f 0
        have q1 := HR.out.f 1
        have q2 := HR.out.f 2
        have q3 := HR.out.f 3
        clear hbA hc0 hc1 hc2
        go_upto_region 9 with (fail)
        go_region
        have HB4 := Lib.hid ((((HBW.out.setCell (p := ⟨w.heap.size, 0, none⟩) (Nat.le_refl _) (.int .i64 n0)).setCell (p := ⟨w.heap.size, 1, none⟩) (Nat.le_refl _) (.int .i64 n1)).setCell (p := ⟨w.heap.size, 2, none⟩) (Nat.le_refl _) (.bool ((rb.extract k (k + 1)).toList == [43]))).setCell (p := ⟨w.heap.size, 3, none⟩) (Nat.le_refl _) (.int .i64 n2))
        have HR4 := Lib.hid ((((HRW.out.put 0 (.int .i64 n0)).put 1 (.int .i64 n1)).put 2 (.bool ((rb.extract k (k + 1)).toList == [43]))).put 3 (.int .i64 n2))
        have HR9 := Lib.hid (HR4.out.later (((Below.refl _ _).alloc (Nat.le_refl _) (.cells #[.bool ((rb.extract k (k + 1)).toList == [43]), .int .i64 n2] 96)).drew).drew)
        clear r0 r1 r2 r3 s0 s1 s2 s3
        have z0 := HR9.out.c 0 rfl
        have z1 := HR9.out.c 1 rfl
        have z2 := HR9.out.c 2 rfl
        have z3 := HR9.out.c 3 rfl
        go_wp2_with fail
        refine bodyPost_ret (v := .tuple #[.agg #[.int .i64 n0, .int .i64 n1, .bool ((rb.extract k (k + 1)).toList == [43]), .int .i64 n2], .bool true]) (by simp [results, Tryz.results52, go_sem, z0, z1, z2, z3]) rfl ?_
        exact ⟨by rw [pxV_yes HE2.out, HE2.out, HV.out, HS3.out], ((HB4.out.alloc HB4.out.size _).drew).drew⟩
  · have HF := Lib.hid (show pxOk p = false by rw [HE.out, decide_eq_false h0]; rfl)
    have g0 : decide (sg0 < 0) = true := decide_eq_true (by omega)
    clear h0 HG
    have r0 := HR.out.c 0 rfl
    have r1 := HR.out.c 1 rfl
    have r2 := HR.out.c 2 rfl
    have r3 := HR.out.c 3 rfl
    have f0 := HR.out.f 0
    have f1 := HR.out.f 1
    have f2 := HR.out.f 2
    have f3 := HR.out.f 3
    go_wp2_with fail
    refine bodyPost_ret (v := .tuple #[.agg #[.int .i64 0, .int .i64 0, .bool false, .int .i64 0], .bool false]) (by simp [results, Tryz.results52, go_sem, r0, r1, r2, r3]) rfl ?_
    exact ⟨by rw [pxV_no HF.out, HF.out], (((HB.out.setCell (p := ⟨w.heap.size, 0, none⟩) (Nat.le_refl _) _).setCell (p := ⟨w.heap.size, 1, none⟩) (Nat.le_refl _) _).setCell (p := ⟨w.heap.size, 2, none⟩) (Nat.le_refl _) _).setCell (p := ⟨w.heap.size, 3, none⟩) (Nat.le_refl _) _⟩
end Go.Proofs.YtgjebjoaemeeoaaGreatDoor.kit
