/-
  Chapter 5: how logs are written: what spec's and impl's FormatLog return.
-/
import Derived.Test.YtbnepdecfnhgoaaDoorS5Log
import Derived.Test.YtbnepdecfnhgoaaDoorS3Fmt
import Derived.Test.YtbnepdecfnhgoaaDoorShelf
import Derived.Lib.Join
namespace Go.Proofs.YtbnepdecfnhgoaaDoor.kit
open Go.ChangeShapes Go.WideShapes Go.ChangeAt Go.RowKit
set_option linter.unusedVariables false

def fmtE (x : Ent) : List UInt8 := Lib.itoa x.e ++ [58] ++ fmtO x.c x.s x.k x.o x.d x.v
/-- the first k entries, with ';' between them -/
def joinTo (L : List Ent) : Nat → List UInt8
  | 0 => []
  | k + 1 => joinTo L k ++ (if 0 < k then [59] else []) ++ fmtE (gE L k)
def wordNone : List UInt8 := [110, 111, 110, 101]
def fmtL (L : List Ent) : List UInt8 := if LOk L then (if L.length = 0 then wordNone else joinTo L L.length) else []
theorem fmtO_len (c s k o d v : Int) : (fmtO c s k o d v).length ≤ 200 := by
  unfold fmtO
  by_cases h : okOp c s k o d v = true
  · obtain ⟨h1, h2, h3, h4, h5⟩ := okOp_kind h
    have hd : 0 ≤ d ∧ d ≤ 9 := by rcases h5 with ⟨_, rfl⟩ | ⟨_, h6⟩ <;> omega
    have lc := itoa_le c (by omega) (by omega)
    have ls := itoa_le s (by omega) (by omega)
    have lo := itoa_le o (by omega) (by omega)
    have lv := itoa_le v (by omega) (by omega)
    have ld := itoa_le d (by omega) (by omega)
    rw [if_pos h]
    unfold fmtA
    split <;> simp [wordWrite, wordSwap] <;> omega
  · rw [if_neg h]; simp
theorem okE_in {n : Int} (h : okE n = true) : 1 ≤ n ∧ n ≤ 20 := of_decide_eq_true h
theorem entOk_e {x : Ent} (h : entOk x = true) : 1 ≤ x.e ∧ x.e ≤ 20 := by
  unfold entOk at h
  simp only [Bool.and_eq_true] at h
  exact okE_in h.1
theorem fmtE_len {x : Ent} (h : 1 ≤ x.e ∧ x.e ≤ 20) : (fmtE x).length ≤ 230 := by
  have l1 := itoa_le x.e (by omega) (by omega)
  have l2 := fmtO_len x.c x.s x.k x.o x.d x.v
  unfold fmtE
  simp; omega
theorem joinTo_len {L : List Ent} (h : LOk L) : ∀ k, k ≤ L.length → (joinTo L k).length ≤ 250 * k
  | 0, _ => by simp [joinTo]
  | k + 1, hk => by
    have := joinTo_len h k (by omega)
    have l := fmtE_len (entOk_e (h.1 k (by omega)).1)
    unfold joinTo
    simp only [List.length_append]
    split <;> simp <;> omega
theorem joinTo_join (L : List Ent) : Lib.join (L.map fmtE) [59] = joinTo L L.length := by
  cases L with
  | nil => rfl
  | cons x r =>
    rw [List.map_cons, Lib.join_cons]
    have h : ∀ k, k ≤ r.length → fmtE x ++ Lib.joinTail [59] ((r.map fmtE).take k) = joinTo (x :: r) (k + 1) := by
      intro k
      induction k with
      | zero => intro _; simp [joinTo, Lib.joinTail, gE]
      | succ k ih =>
        intro hk
        have hy : (r.map fmtE)[k]? = some (fmtE (gE (x :: r) (k + 1))) := by
          rw [List.getElem?_map, List.getElem?_eq_getElem (by omega)]
          simp [gE, List.getD, List.getElem?_eq_getElem (show k < r.length by omega)]
        rw [Lib.joinTail_take_succ _ _ _ _ hy]
        have e := ih (by omega)
        rw [show joinTo (x :: r) (k + 1 + 1) = joinTo (x :: r) (k + 1) ++ (if 0 < k + 1 then [59] else []) ++ fmtE (gE (x :: r) (k + 1)) from rfl, ← e, if_pos (by omega)]
        simp [List.append_assoc]
    have := h r.length (Nat.le_refl _)
    rw [List.take_of_length_le (by simp)] at this
    exact this
set_option maxRecDepth 100000 in
set_option maxHeartbeats 4000000 in
theorem specFormatLogA (a : Option Addr) (c : Nat) (L : List Ent) (w : World) (hl : L.length ≤ 2097152) (ha : AtE w a L) :
    Calls Tryd.prog 29 #[.slice a L.length c] w fun e w' => e = .returned (str (fmtL L)) ∧ Below w.heap.size w w' := by
  have C1 := Lib.hid (specIsLogA a c L w hl ha)
  have HA := Lib.hid ha
  clear ha
  by_cases he : LOk L
  · have hO : decide (LOk L) = true := decide_eq_true he
    rw [hO] at C1
    by_cases h0 : L.length = 0
    · have HF := Lib.hid (show fmtL L = wordNone by unfold fmtL; rw [if_pos he, if_pos h0])
      obtain rfl : L = [] := List.eq_nil_of_length_eq_zero h0
      clear he hO h0
      go_enter Tryd.func29, Tryd.ntmps29
      go_wp2_with (go_at_call 17; refine (C1.out).mono ?_; rintro e w1 ⟨rfl, hb1⟩)
      go_ret
      exact ⟨by rw [HF.out]; rfl, hb1⟩
    · have HF := Lib.hid (show fmtL L = joinTo L L.length by unfold fmtL; rw [if_pos he, if_neg h0])
      have g0 : ((L.length : Int) == 0) = false := by rw [beq_eq_false_iff_ne]; omega
      have HO := Lib.hid he
      have h16 := he.2
      clear he hO
      go_enter Tryd.func29, Tryd.ntmps29
      go_wp2_with (go_at_call 17; refine (C1.out).mono ?_; rintro e w1 ⟨rfl, hb1⟩)
      have HB1 := Lib.hid hb1
      clear hb1 g0
      go_loopw [3, 4] (fun s i wr => ∃ k : Nat, k ≤ L.length ∧ i = .int .i64 k ∧ s = str (joinTo L k) ∧ Hid (Below w.heap.size w wr)) (fun _ i _ => L.length - (intOf i).toNat)
      case atStart => exact ⟨0, Nat.zero_le _, rfl, rfl, HB1⟩
      case round =>
        obtain ⟨k, hk, rfl, rfl, HQ⟩ := hrel
        by_cases hlt : k < L.length
        · obtain ⟨g, o, rfl, hg, hc⟩ := HA.out k hlt
          obtain ⟨c0, c1, c2, c3, c4, c5, c6⟩ := hc.below HQ.out hg
          have hv := (HO.out.1 k hlt).1
          have he := entOk_e hv
          have HT := Lib.hid (show joinTo L (k + 1) = joinTo L k ++ (if 0 < k then [59] else []) ++ fmtE (gE L k) from rfl)
          have hS := joinTo_len HO.out k (by omega)
          have hfo := fmtO_len (gE L k).c (gE L k).s (gE L k).k (gE L k).o (gE L k).d (gE L k).v
          unfold fmtE at HT
          clear hv
          generalize joinTo L k = S at *
          obtain ⟨xe, xc, xs, xk, xo, xd, xv, hx⟩ : ∃ xe xc xs xk xo xd xv, gE L k = ⟨xe, xc, xs, xk, xo, xd, xv⟩ := ⟨_, _, _, _, _, _, _, rfl⟩
          rw [hx] at c0 c1 c2 c3 c4 c5 c6 he HT hfo
          simp only at c0 c1 c2 c3 c4 c5 c6 he HT hfo
          clear hx hc
          have hgr : g < wr.heap.size := Nat.lt_of_lt_of_le hg HQ.out.size
          have q0 := LaterOf.cell (a := ⟨g, o + k * 7, none⟩) hgr c0
          have q1 := LaterOf.cell (a := ⟨g, o + k * 7 + 1, none⟩) hgr c1
          have q2 := LaterOf.cell (a := ⟨g, o + k * 7 + 2, none⟩) hgr c2
          have q3 := LaterOf.cell (a := ⟨g, o + k * 7 + 3, none⟩) hgr c3
          have q4 := LaterOf.cell (a := ⟨g, o + k * 7 + 4, none⟩) hgr c4
          have q5 := LaterOf.cell (a := ⟨g, o + k * 7 + 5, none⟩) hgr c5
          have q6 := LaterOf.cell (a := ⟨g, o + k * 7 + 6, none⟩) hgr c6
          clear c0 c1 c2 c3 c4 c5 c6
          have hle := itoa_le xe (by omega) (by omega)
          have j1 := fun W => specFormatInt xe W (by omega) (by omega)
          have j2 := fun W => specFormatOp xc xs xk xo xd xv W
          unfold opV at j2
          have J1 : ∀ W, Hid _ := fun W => Lib.hid (j1 W)
          have J2 : ∀ W, Hid _ := fun W => Lib.hid (j2 W)
          clear j1 j2 he
          generalize fmtO xc xs xk xo xd xv = fo at *
          generalize Lib.itoa xe = fe at *
          have k3 : (0 : Int) ≤ (k : Int) := by omega
          have k5 : (k : Int) < (L.length : Int) := by omega
          by_cases h0 : 0 < k
          · rw [if_pos h0] at HT
            have i1 : decide ((0 : Int) < (k : Int)) = true := by simp; omega
            have e0 : ¬ (9223372036854775807 < S.length + 1) := by omega
            have e1 : ¬ (9223372036854775807 < S.length + 1 + fe.length) := by omega
            have e2 : ¬ (9223372036854775807 < S.length + 1 + fe.length + 1) := by omega
            have e3 : ¬ (9223372036854775807 < S.length + 1 + fe.length + 1 + fo.length) := by omega
            go_wp2_with fail
            refine wp_region_later (by kernel_rfl) (by kernel_rfl) ?_
            repeat (go_big_quiet_step (first | (with_reducible exact Calls.later_of (J1 _).out) | (with_reducible exact Calls.later_of (J2 _).out)))
            refine wpQuiet_nil ?_
            intro _ hw'
            obtain ⟨⟨wz, hwz⟩, hw''⟩ := hw'
            subst hw''
            have HZ := Lib.hid (HQ.out.trans (hwz.mono HQ.out.size))
            clear hwz
            go_wp2_with fail
            go_roundw
            case rel => exact ⟨k + 1, by omega, by go_num, by rw [HT.out]; exact congrArg Value.string (by apply ByteArray.ext; apply Array.ext'; simp), HZ⟩
            case measure => simp [intOf]; omega
          · rw [if_neg h0] at HT
            have i1 : decide ((0 : Int) < (k : Int)) = false := by simp; omega
            have e1 : ¬ (9223372036854775807 < S.length + fe.length) := by omega
            have e2 : ¬ (9223372036854775807 < S.length + fe.length + 1) := by omega
            have e3 : ¬ (9223372036854775807 < S.length + fe.length + 1 + fo.length) := by omega
            go_wp2_with fail
            refine wp_region_later (by kernel_rfl) (by kernel_rfl) ?_
            repeat (go_big_quiet_step (first | (with_reducible exact Calls.later_of (J1 _).out) | (with_reducible exact Calls.later_of (J2 _).out)))
            refine wpQuiet_nil ?_
            intro _ hw'
            obtain ⟨⟨wz, hwz⟩, hw''⟩ := hw'
            subst hw''
            have HZ := Lib.hid (HQ.out.trans (hwz.mono HQ.out.size))
            clear hwz
            go_wp2_with fail
            go_roundw
            case rel => exact ⟨k + 1, by omega, by go_num, by rw [HT.out]; exact congrArg Value.string (by apply ByteArray.ext; apply Array.ext'; simp), HZ⟩
            case measure => simp [intOf]; omega
        · obtain rfl : k = L.length := by omega
          clear hlt hk
          go_wp2_with fail
          go_ret
          exact ⟨by rw [HF.out]; rfl, HQ.out⟩
  · have HF := Lib.hid (show fmtL L = [] by unfold fmtL; rw [if_neg he])
    rw [decide_eq_false he] at C1
    clear he
    go_enter Tryd.func29, Tryd.ntmps29
    go_wp2_with (go_at_call 17; refine (C1.out).mono ?_; rintro e w1 ⟨rfl, hb1⟩)
    go_ret
    exact ⟨by rw [HF.out]; rfl, hb1⟩
theorem specFormatLog (b : Nat) (v : Value) (L : List Ent) (w : World) (h : L.length ≤ 2097152) (o : OwnE b w v L) :
    Calls Tryd.prog 29 #[v] w fun e w' => e = .returned (.string ⟨(fmtL L).toArray⟩) ∧ Below w.heap.size w w' := by
  obtain ⟨a, c, rfl, _, _, at1, _⟩ := o.form
  exact specFormatLogA a c L w h at1
theorem infoT : (Tryd.prog.info? 9).map (fun i => (i.zero, i.size, i.bytes)) = some (some (.string ⟨#[]⟩), 1, 16) := by kernel_rfl
def OwnT (base : Nat) (w : World) (v : Value) (l : List ByteArray) : Prop := w.ownsRow base 9 1 v l.length (l.map Value.string)
theorem OwnT.row {base : Nat} {w : World} {v : Value} {l : List ByteArray} (h : OwnT base w v l) : w.ownsRow base 9 1 v l.length (l.map Value.string) := h
theorem OwnT.later {base : Nat} {w w' : World} {v : Value} {l : List ByteArray} (h : OwnT base w v l) (hb : Below w.heap.size w w') : OwnT base w' v l :=
  h.row.kept (row := none) ⟨hb.os, hb.tape, hb.output, hb.size, fun k hk _ => hb.block k hk⟩ (by cases hv : v.ownBlock <;> simp)
theorem OwnT.apart {base : Nat} {w : World} {v : Value} {l : List ByteArray} (h : OwnT base w v l) : ∀ j, v.ownBlock = some j → base ≤ j ∧ j ≠ w.heap.size := fun j hj => ⟨(h.row.lt j hj).1, by have := (h.row.lt j hj).2; omega⟩
theorem OwnT.there {base : Nat} {w : World} {v : Value} {l : List ByteArray} (h : OwnT base w v l) (h0 : 0 < l.length) : ∃ g cap, v = .slice (some ⟨g, 0, none⟩) l.length cap ∧ l.length ≤ cap ∧ g < w.heap.size ∧ ∀ (j : Nat) x, l[j]? = some x → w.cell? ⟨g, 0 + j, none⟩ = some (.string x) := by
  rcases h.2 with ⟨rfl, h1⟩ | ⟨g, c, cur, rfl, hg, hh, hn, hm, _⟩
  · omega
  · refine ⟨g, c, rfl, hn, (Array.getElem?_eq_some_iff.1 hh).1, fun j x hx => ?_⟩
    have hj := (List.getElem?_eq_some_iff.1 hx).1
    have := h.row.cellAt j (by omega)
    rw [Nat.zero_add, this, List.getElem?_map, hx]
    rfl
theorem news_lit (w : World) (X : Value) (t : TypeId) : ∀ (j : Nat) (u : Value), [X][j]? = some u → (w.alloc (.cells #[X] t)).cell? ((⟨w.heap.size, 0, none⟩ : Addr).add j) = some u := by
  intro j u hu
  have hj : j = 0 := by have := (List.getElem?_eq_some_iff.1 hu).1; simpa using this
  subst hj
  have hadd : (⟨w.heap.size, 0, none⟩ : Addr).add 0 = ⟨w.heap.size, 0, none⟩ := by unfold Addr.add; split <;> simp_all
  rw [hadd, World.cell?_alloc_at _ _ _ _ rfl]
  simpa using hu
theorem step_appT {w : World} {ops : Array Oper} {o : Oper} {a : Act} {K : Act → World → Prop} {Q : Exit → Act → World → Prop} {E : Prop} (hgd : o.guard = none) (s x : Operand)
    (ho : o.op = .call { callee := .builtin .append, args := #[s, x], argTypes := #[71, 71] })
    (base : Nat) (v : Value) (l : List ByteArray) (hs : a.eval s = v) (hown : OwnT base w v l) (y : ByteArray) (hx : a.eval x = .slice (some ⟨w.heap.size, 0, none⟩) 1 1) (hlen : l.length ≤ 100000) (hbase : base ≤ w.heap.size)
    (h : ∀ v' w', OwnT base w' v' (l ++ [y]) → (w.alloc (.cells #[.string y] 9)).grownBy w' v.ownBlock → K (a.put o.dst v') w') :
    if Region.wanted o (yielded ops a.tmps) = true then Oper.wp Tryd.prog o a (w.alloc (.cells #[.string y] 9)) K Q else E := by
  obtain ⟨i0, hi, hz0, hz1, hz2⟩ := info_parts infoT
  refine step_append_lies _ hgd s x 71 ho base 9 i0 (.string ⟨#[]⟩) 1 16 Tryd.underlying71 hi hz0 hz1 hz2 rfl (by decide) v l.length _ hs (hown.later ((Below.refl w.heap.size w).alloc (Nat.le_refl _) _)).row ⟨w.heap.size, 0, none⟩ 1 1 [.string y] hx rfl (news_lit w _ _) ?_ (by decide) (by unfold maxLen; omega) (by omega) (by simp; omega) _ rfl ?_
  · intro u hu
    simp only [List.mem_singleton] at hu
    subst hu
    rfl
  · intro g cap w' h1 h2 _ _
    refine h _ w' ?_ h2
    unfold OwnT
    rw [List.length_append, List.map_append]
    exact h1
theorem size_upT (w : World) (o : Obj) : w.heap.size ≤ (w.alloc o).heap.size := by simp
theorem cat3 (x y z : List UInt8) : (⟨x.toArray⟩ ++ ⟨y.toArray⟩ ++ ⟨z.toArray⟩ : ByteArray) = ⟨(x ++ y ++ z).toArray⟩ := by apply ByteArray.ext; apply Array.ext'; simp
def strE (L : List Ent) (k : Nat) : List ByteArray := (L.take k).map fun x => (⟨(fmtE x).toArray⟩ : ByteArray)
theorem strE_snoc (L : List Ent) (k : Nat) (h : k < L.length) : strE L (k + 1) = strE L k ++ [⟨(fmtE (gE L k)).toArray⟩] := by unfold strE; rw [take_snocE L k h, List.map_append]; rfl
theorem strE_len (L : List Ent) (k : Nat) (h : k ≤ L.length) : (strE L k).length = k := by unfold strE; rw [List.length_map, List.length_take]; omega
theorem k8_below {B E N : Nat} {x0 x1 x2 x3 x4 x5 x6 : Value} {w W W' : World} (h : Below B w W ∧ W.cell? ⟨E, 0, none⟩ = some x0 ∧ W.cell? ⟨E, 1, none⟩ = some x1 ∧ W.cell? ⟨E, 2, none⟩ = some x2 ∧ W.cell? ⟨E, 3, none⟩ = some x3 ∧ W.cell? ⟨E, 4, none⟩ = some x4 ∧ W.cell? ⟨E, 5, none⟩ = some x5 ∧ W.cell? ⟨E, 6, none⟩ = some x6) (hb : Below N W W') (hE : Hid (E < N)) (hB : Hid (B ≤ N)) : Below B w W' ∧ W'.cell? ⟨E, 0, none⟩ = some x0 ∧ W'.cell? ⟨E, 1, none⟩ = some x1 ∧ W'.cell? ⟨E, 2, none⟩ = some x2 ∧ W'.cell? ⟨E, 3, none⟩ = some x3 ∧ W'.cell? ⟨E, 4, none⟩ = some x4 ∧ W'.cell? ⟨E, 5, none⟩ = some x5 ∧ W'.cell? ⟨E, 6, none⟩ = some x6 := by
  obtain ⟨h7, h0, h1, h2, h3, h4, h5, h6⟩ := h
  have hn := hE.out
  exact ⟨h7.trans (hb.mono hB.out), (hb.cell (p := ⟨E, 0, none⟩) hn).trans h0, (hb.cell (p := ⟨E, 1, none⟩) hn).trans h1, (hb.cell (p := ⟨E, 2, none⟩) hn).trans h2, (hb.cell (p := ⟨E, 3, none⟩) hn).trans h3, (hb.cell (p := ⟨E, 4, none⟩) hn).trans h4, (hb.cell (p := ⟨E, 5, none⟩) hn).trans h5, (hb.cell (p := ⟨E, 6, none⟩) hn).trans h6⟩
theorem k8_drew {B E : Nat} {x0 x1 x2 x3 x4 x5 x6 : Value} {w W : World} (h : Below B w W ∧ W.cell? ⟨E, 0, none⟩ = some x0 ∧ W.cell? ⟨E, 1, none⟩ = some x1 ∧ W.cell? ⟨E, 2, none⟩ = some x2 ∧ W.cell? ⟨E, 3, none⟩ = some x3 ∧ W.cell? ⟨E, 4, none⟩ = some x4 ∧ W.cell? ⟨E, 5, none⟩ = some x5 ∧ W.cell? ⟨E, 6, none⟩ = some x6) : Below B w W.drew ∧ W.drew.cell? ⟨E, 0, none⟩ = some x0 ∧ W.drew.cell? ⟨E, 1, none⟩ = some x1 ∧ W.drew.cell? ⟨E, 2, none⟩ = some x2 ∧ W.drew.cell? ⟨E, 3, none⟩ = some x3 ∧ W.drew.cell? ⟨E, 4, none⟩ = some x4 ∧ W.drew.cell? ⟨E, 5, none⟩ = some x5 ∧ W.drew.cell? ⟨E, 6, none⟩ = some x6 :=
  ⟨h.1.drew, h.2⟩
theorem k8_alloc {B E : Nat} {x0 x1 x2 x3 x4 x5 x6 : Value} {w W : World} (h : Below B w W ∧ W.cell? ⟨E, 0, none⟩ = some x0 ∧ W.cell? ⟨E, 1, none⟩ = some x1 ∧ W.cell? ⟨E, 2, none⟩ = some x2 ∧ W.cell? ⟨E, 3, none⟩ = some x3 ∧ W.cell? ⟨E, 4, none⟩ = some x4 ∧ W.cell? ⟨E, 5, none⟩ = some x5 ∧ W.cell? ⟨E, 6, none⟩ = some x6) (hE : Hid (E < W.heap.size)) (hB : Hid (B ≤ W.heap.size)) (o : Obj) : Below B w (W.alloc o) ∧ (W.alloc o).cell? ⟨E, 0, none⟩ = some x0 ∧ (W.alloc o).cell? ⟨E, 1, none⟩ = some x1 ∧ (W.alloc o).cell? ⟨E, 2, none⟩ = some x2 ∧ (W.alloc o).cell? ⟨E, 3, none⟩ = some x3 ∧ (W.alloc o).cell? ⟨E, 4, none⟩ = some x4 ∧ (W.alloc o).cell? ⟨E, 5, none⟩ = some x5 ∧ (W.alloc o).cell? ⟨E, 6, none⟩ = some x6 :=
  k8_below h ((Below.refl W.heap.size W).alloc (Nat.le_refl _) o) hE hB
theorem k8_grown {B E : Nat} {u : Value} {x0 x1 x2 x3 x4 x5 x6 : Value} {w W W' : World} (h : Below B w W ∧ W.cell? ⟨E, 0, none⟩ = some x0 ∧ W.cell? ⟨E, 1, none⟩ = some x1 ∧ W.cell? ⟨E, 2, none⟩ = some x2 ∧ W.cell? ⟨E, 3, none⟩ = some x3 ∧ W.cell? ⟨E, 4, none⟩ = some x4 ∧ W.cell? ⟨E, 5, none⟩ = some x5 ∧ W.cell? ⟨E, 6, none⟩ = some x6) (hg : W.grownBy W' u.ownBlock) (hu : Hid (∀ k, u.ownBlock = some k → B ≤ k ∧ k ≠ E)) (hE : Hid (E < W.heap.size)) (hB : Hid (B ≤ W.heap.size)) : Below B w W' ∧ W'.cell? ⟨E, 0, none⟩ = some x0 ∧ W'.cell? ⟨E, 1, none⟩ = some x1 ∧ W'.cell? ⟨E, 2, none⟩ = some x2 ∧ W'.cell? ⟨E, 3, none⟩ = some x3 ∧ W'.cell? ⟨E, 4, none⟩ = some x4 ∧ W'.cell? ⟨E, 5, none⟩ = some x5 ∧ W'.cell? ⟨E, 6, none⟩ = some x6 := by
  obtain ⟨h7, h0, h1, h2, h3, h4, h5, h6⟩ := h
  have hbl : W'.heap[E]? = W.heap[E]? := hg.block _ hE.out (fun e => (hu.out E e.symm).2 rfl)
  have hc := fun q => World.cell?_of_block (a := ⟨E, q, none⟩) hbl
  exact ⟨h7.trans ((Below.refl B W).grown hg hB.out (fun k hk => (hu.out k hk).1)), (hc 0).trans h0, (hc 1).trans h1, (hc 2).trans h2, (hc 3).trans h3, (hc 4).trans h4, (hc 5).trans h5, (hc 6).trans h6⟩
set_option maxRecDepth 100000 in
set_option maxHeartbeats 4000000 in
theorem implFormatLogA (a : Option Addr) (c : Nat) (L : List Ent) (w : World) (hl : L.length ≤ 2097152) (ha : AtE w a L) (hT : Tab w) :
    Calls Tryd.prog 31 #[.slice a L.length c] w fun e w' => e = .returned (str (fmtL L)) ∧ Below w.heap.size w w' := by
  have C1 := Lib.hid (implIsLogA a c L w hl ha)
  have HA := Lib.hid ha
  have HT := Lib.hid hT
  clear ha hT
  by_cases he : LOk L
  · have hO : decide (LOk L) = true := decide_eq_true he
    rw [hO] at C1
    by_cases h0 : L.length = 0
    · have HF := Lib.hid (show fmtL L = wordNone by unfold fmtL; rw [if_pos he, if_pos h0])
      obtain rfl : L = [] := List.eq_nil_of_length_eq_zero h0
      clear he hO h0
      go_enter Tryd.func31, Tryd.ntmps31
      go_wp2_with (go_at_call 63; refine (C1.out).mono ?_; rintro e w1 ⟨rfl, hb1⟩)
      go_ret
      exact ⟨by rw [HF.out]; rfl, hb1⟩
    · have HF := Lib.hid (show fmtL L = joinTo L L.length by unfold fmtL; rw [if_pos he, if_neg h0])
      have g0 : ((L.length : Int) == 0) = false := by rw [beq_eq_false_iff_ne]; omega
      have HO := Lib.hid he
      have h16 := he.2
      have hmk : ∀ W : World, (Instr.makeSlice 71 (.int .i64 0) (.int .i64 (L.length : Int))).run Tryd.prog W = .ok (.slice (some ⟨W.heap.size, 0, none⟩) 0 L.length) (W.alloc (.cells (madeCells #[.string ⟨#[]⟩] L.length) 9)) := fun W => by
        obtain ⟨i0, hi, hz0, hz1, hz2⟩ := info_parts infoT
        have h := run_make (P := Tryd.prog) W 71 9 i0 (.string ⟨#[]⟩) Tryd.underlying71 hi hz0 .i64 .i64 0 (L.length : Int) (by omega) (by omega) (by rw [hz2]; omega) (by omega)
        simpa [hz1, Value.cells] using h
      clear he hO
      go_enter Tryd.func31, Tryd.ntmps31
      go_wp2_with (go_at_call 63; refine (C1.out).mono ?_; rintro e w1 ⟨rfl, hb1⟩)
      have HB1 := Lib.hid hb1
      have hz1 := hb1.size
      clear hb1 g0 hmk
      go_loopw [3, 5, 17] (fun v _ i wr => ∃ k : Nat, k ≤ L.length ∧ i = .int .i64 k ∧ Hid (OwnT w.heap.size wr v (strE L k)) ∧ Hid (Below w.heap.size w wr)) (fun _ _ i _ => L.length - (intOf i).toNat)
      case atStart => exact ⟨0, Nat.zero_le _, rfl, Lib.hid (World.ownsRow_made w1 _ _ hz1 (by unfold maxLen; omega) (by simp [size_madeCells])), Lib.hid (HB1.out.alloc hz1 _)⟩
      case round =>
        obtain ⟨k, hk, rfl, HOW, HQ⟩ := hrel
        by_cases hlt : k < L.length
        · obtain ⟨g, o, rfl, hg, hc⟩ := HA.out k hlt
          obtain ⟨c0, c1, c2, c3, c4, c5, c6⟩ := hc.below HQ.out hg
          have hv := (HO.out.1 k hlt).1
          have he := entOk_e hv
          have HS := Lib.hid (strE_snoc L k hlt)
          have HLN := Lib.hid (strE_len L k (by omega))
          have hfo := fmtO_len (gE L k).c (gE L k).s (gE L k).k (gE L k).o (gE L k).d (gE L k).v
          unfold fmtE at HS
          clear hv
          generalize strE L k = S at *
          obtain ⟨xe, xc, xs, xk, xo, xd, xv, hx⟩ : ∃ xe xc xs xk xo xd xv, gE L k = ⟨xe, xc, xs, xk, xo, xd, xv⟩ := ⟨_, _, _, _, _, _, _, rfl⟩
          rw [hx] at c0 c1 c2 c3 c4 c5 c6 he HS hfo
          simp only at c0 c1 c2 c3 c4 c5 c6 he HS hfo
          clear hx hc
          have hle := itoa_le xe (by omega) (by omega)
          have k3 : (0 : Int) ≤ (k : Int) := by omega
          have k5 : (k : Int) < (L.length : Int) := by omega
          go_wp2_with fail
          clear c0 c1 c2 c3 c4 c5 c6
          obtain ⟨W1, hW1⟩ : ∃ W, W = (wr.alloc (.cells #[.int .i64 xe, .int .i64 xc, .int .i64 xs, .int .i64 xk, .int .i64 xo, .int .i64 xd, .int .i64 xv] 62)) := ⟨_, rfl⟩
          have c0 : W1.cell? ⟨wr.heap.size, 0, none⟩ = some (.int .i64 xe) := by rw [hW1, World.cell?_alloc_at _ _ _ _ rfl]; rfl
          have c1 : W1.cell? ⟨wr.heap.size, 1, none⟩ = some (.int .i64 xc) := by rw [hW1, World.cell?_alloc_at _ _ _ _ rfl]; rfl
          have c2 : W1.cell? ⟨wr.heap.size, 2, none⟩ = some (.int .i64 xs) := by rw [hW1, World.cell?_alloc_at _ _ _ _ rfl]; rfl
          have c3 : W1.cell? ⟨wr.heap.size, 3, none⟩ = some (.int .i64 xk) := by rw [hW1, World.cell?_alloc_at _ _ _ _ rfl]; rfl
          have c4 : W1.cell? ⟨wr.heap.size, 4, none⟩ = some (.int .i64 xo) := by rw [hW1, World.cell?_alloc_at _ _ _ _ rfl]; rfl
          have c5 : W1.cell? ⟨wr.heap.size, 5, none⟩ = some (.int .i64 xd) := by rw [hW1, World.cell?_alloc_at _ _ _ _ rfl]; rfl
          have c6 : W1.cell? ⟨wr.heap.size, 6, none⟩ = some (.int .i64 xv) := by rw [hW1, World.cell?_alloc_at _ _ _ _ rfl]; rfl
          have hbW : Below wr.heap.size wr W1.drew := by rw [hW1]; exact ((Below.refl _ _).alloc (Nat.le_refl _) _).drew
          have hsW : W1.heap.size = wr.heap.size + 1 := by rw [hW1]; simp
          have HBW := Lib.hid (HQ.out.trans (hbW.mono HQ.out.size))
          have HOW1 := Lib.hid (HOW.out.later hbW)
          have HE1 := Lib.hid (show wr.heap.size < W1.drew.heap.size by show wr.heap.size < W1.heap.size; omega)
          have hqs := HQ.out.size
          have HN1 := Lib.hid (show w.heap.size ≤ W1.drew.heap.size by show w.heap.size ≤ W1.heap.size; omega)
          have HU := Lib.hid HOW.out.apart
          have J1 := Lib.hid (implFormatInt xe W1.drew (by omega) (by omega) (HT.out.below HBW.out))
          have j2 := fun W (h : Below w.heap.size w W) => implFormatOp xc xs xk xo xd xv W (HT.out.below h)
          unfold opV at j2
          have J2 := fun W h => Lib.hid (j2 W h)
          clear j2 he hbW
          rw [← hW1]
          clear hW1
          generalize fmtO xc xs xk xo xd xv = fo at *
          generalize Lib.itoa xe = fe at *
          have e1 : ¬ (9223372036854775807 < fe.length + 1) := by omega
          have e2 : ¬ (9223372036854775807 < fe.length + 1 + fo.length) := by omega
          have hSl : S.length ≤ 100000 := by rw [HLN.out]; omega
          have hS0 : Below w.heap.size w W1.drew ∧ W1.drew.cell? ⟨wr.heap.size, 0, none⟩ = some (.int .i64 xe) ∧ W1.drew.cell? ⟨wr.heap.size, 1, none⟩ = some (.int .i64 xc) ∧ W1.drew.cell? ⟨wr.heap.size, 2, none⟩ = some (.int .i64 xs) ∧ W1.drew.cell? ⟨wr.heap.size, 3, none⟩ = some (.int .i64 xk) ∧ W1.drew.cell? ⟨wr.heap.size, 4, none⟩ = some (.int .i64 xo) ∧ W1.drew.cell? ⟨wr.heap.size, 5, none⟩ = some (.int .i64 xd) ∧ W1.drew.cell? ⟨wr.heap.size, 6, none⟩ = some (.int .i64 xv) := ⟨HBW.out, c0, c1, c2, c3, c4, c5, c6⟩
          clear c0 c1 c2 c3 c4 c5 c6
          go_region_held3 (fun w' => Below w.heap.size w w' ∧ w'.cell? ⟨wr.heap.size, 0, none⟩ = some (.int .i64 xe) ∧ w'.cell? ⟨wr.heap.size, 1, none⟩ = some (.int .i64 xc) ∧ w'.cell? ⟨wr.heap.size, 2, none⟩ = some (.int .i64 xs) ∧ w'.cell? ⟨wr.heap.size, 3, none⟩ = some (.int .i64 xk) ∧ w'.cell? ⟨wr.heap.size, 4, none⟩ = some (.int .i64 xo) ∧ w'.cell? ⟨wr.heap.size, 5, none⟩ = some (.int .i64 xd) ∧ w'.cell? ⟨wr.heap.size, 6, none⟩ = some (.int .i64 xv))
            (first | (with_reducible assumption) | (with_reducible exact k8_drew (by with_reducible assumption)) | (with_reducible exact k8_below (by with_reducible assumption) hb2 HE1 HN1) | (with_reducible exact k8_below (by with_reducible assumption) hb3 HE2 HN2) | (with_reducible exact k8_alloc (by with_reducible assumption) HE3 HN3 _) | (with_reducible exact k8_grown (by with_reducible assumption) hg4 HU HE4 HN4))
            (first
            | (go_at_call 64; (with_reducible refine J1.out.mono ?_); rintro e w2 ⟨rfl, hb2⟩; have HE2 := Lib.hid (Nat.lt_of_lt_of_le HE1.out hb2.size); have HN2 := Lib.hid (Nat.le_trans HN1.out hb2.size); have HBW2 := Lib.hid (HBW.out.trans (hb2.mono HN1.out)); have HOW2 := Lib.hid (HOW1.out.later hb2); have J3 := J2 w2 HBW2.out)
            | (go_at_call 65; (with_reducible refine J3.out.mono ?_); rintro e w3 ⟨rfl, hb3⟩; have HE3 := Lib.hid (Nat.lt_of_lt_of_le HE2.out hb3.size); have HN3 := Lib.hid (Nat.le_trans HN2.out hb3.size); have HOW3 := Lib.hid (HOW2.out.later hb3))
            | (refine step_appT rfl (.tmp 21) (.tmp 30) rfl w.heap.size _ S ?_ HOW3.out _ ?_ hSl HN3.out ?_; simp [Act.eval]; simp [Act.eval]; intro v4 w4 ho4 hg4; have HE4 := Lib.hid (Nat.lt_of_lt_of_le HE3.out (size_upT w3 (.cells #[.string (⟨fe.toArray⟩ ++ ⟨#[58]⟩ ++ ⟨fo.toArray⟩)] 9))); have HN4 := Lib.hid (Nat.le_trans HN3.out (size_upT w3 (.cells #[.string (⟨fe.toArray⟩ ++ ⟨#[58]⟩ ++ ⟨fo.toArray⟩)] 9)))))
          all_goals
            rename_i hSE
            have HZ := Lib.hid hSE.1
            clear e1 e2 hSE
            go_wp2_with fail
            go_roundw
            case rel => exact ⟨k + 1, by omega, by go_num, Lib.hid (by rw [HS.out, ← cat3]; exact ho4), HZ⟩
            case measure => simp [intOf]; omega
        · obtain rfl : k = L.length := by omega
          clear hlt hk
          have HLN := strE_len L L.length (Nat.le_refl _)
          have hpos : 0 < L.length := by omega
          obtain ⟨g, cc, hv, hcap, hgl, hcell⟩ := HOW.out.there (by rw [HLN]; exact hpos)
          have hmap : (strE L L.length).map (·.data.toList) = L.map fmtE := by
            unfold strE; rw [List.take_length, List.map_map]; rfl
          have hjl := joinTo_len HO.out L.length (Nat.le_refl _)
          have J := Tryd.strings_Join g 0 cc (strE L L.length) ⟨#[59]⟩ wr hcell hgl (by rw [HLN]; omega) hcap (by rw [hmap, show (⟨#[59]⟩ : ByteArray).data.toList = [59] from rfl, joinTo_join]; omega)
          rw [hmap, show (⟨#[59]⟩ : ByteArray).data.toList = [59] from rfl, joinTo_join, HLN] at J
          rw [HLN] at hv
          subst hv
          have HJ := Lib.hid J
          clear J hmap hcell hgl hcap HLN hjl hpos HOW
          go_wp2_with (go_at_call 66; refine HJ.out.mono ?_; rintro e w2 ⟨rfl, hb2⟩)
          go_ret
          exact ⟨by rw [HF.out]; rfl, HQ.out.trans (hb2.mono HQ.out.size)⟩
  · have HF := Lib.hid (show fmtL L = [] by unfold fmtL; rw [if_neg he])
    rw [decide_eq_false he] at C1
    clear he
    go_enter Tryd.func31, Tryd.ntmps31
    go_wp2_with (go_at_call 63; refine (C1.out).mono ?_; rintro e w1 ⟨rfl, hb1⟩)
    go_ret
    exact ⟨by rw [HF.out]; rfl, hb1⟩
theorem implFormatLog (b : Nat) (v : Value) (L : List Ent) (w : World) (h : L.length ≤ 2097152) (o : OwnE b w v L) (hT : Tab w) :
    Calls Tryd.prog 31 #[v] w fun e w' => e = .returned (.string ⟨(fmtL L).toArray⟩) ∧ Below w.heap.size w w' := by
  obtain ⟨a, c, rfl, _, _, at1, _⟩ := o.form
  exact implFormatLogA a c L w h at1 hT
end Go.Proofs.YtbnepdecfnhgoaaDoor.kit
