/-
  Chapter 5: how logs are written: what spec's and impl's FormatLog return.
-/
import Derived.Test.YtkkgonkpmdlelaaDoorS5Log
import Derived.Test.YtkkgonkpmdlelaaDoorS3Fmt
import Derived.Test.YtkkgonkpmdlelaaDoorShelf
import Derived.Lib.Join
namespace Go.Proofs.YtkkgonkpmdlelaaDoor.kit
open Go.ChangeShapes Go.WideShapes Go.ChangeAt Go.RowKit
set_option linter.unusedVariables false

def fmtE (x : Ent) : List UInt8 := Lib.itoa x.e ++ [58] ++ fmtO x.c x.s x.k x.o x.d x.v
/-- the first k entries, with ';' between them -/
def joinTo (L : List Ent) : Nat → List UInt8
  | 0 => []
  | k + 1 => joinTo L k ++ (if 0 < k then [59] else []) ++ fmtE (gE L k)
def wordNone : List UInt8 := [110, 111, 110, 101]
def fmtL (L : List Ent) : List UInt8 := if LOk L then (if L.length = 0 then wordNone else joinTo L L.length) else []
theorem fmtO_len (c s k o d v : Int) : (fmtO c s k o d v).length ≤ 200 := by
  unfold fmtO
  by_cases h : okOp c s k o d v = true
  · obtain ⟨h1, h2, h3, h4, h5⟩ := okOp_kind h
    have hd : 0 ≤ d ∧ d ≤ 9 := by rcases h5 with ⟨_, rfl⟩ | ⟨_, h6⟩ <;> omega
    have lc := itoa_le c (by omega) (by omega)
    have ls := itoa_le s (by omega) (by omega)
    have lo := itoa_le o (by omega) (by omega)
    have lv := itoa_le v (by omega) (by omega)
    have ld := itoa_le d (by omega) (by omega)
    rw [if_pos h]
    unfold fmtA
    split <;> simp [wordWrite, wordSwap] <;> omega
  · rw [if_neg h]; simp
theorem okE_in {n : Int} (h : okE n = true) : 1 ≤ n ∧ n ≤ 20 := of_decide_eq_true h
theorem entOk_e {x : Ent} (h : entOk x = true) : 1 ≤ x.e ∧ x.e ≤ 20 := by
  unfold entOk at h
  simp only [Bool.and_eq_true] at h
  exact okE_in h.1
theorem fmtE_len {x : Ent} (h : 1 ≤ x.e ∧ x.e ≤ 20) : (fmtE x).length ≤ 230 := by
  have l1 := itoa_le x.e (by omega) (by omega)
  have l2 := fmtO_len x.c x.s x.k x.o x.d x.v
  unfold fmtE
  simp; omega
theorem joinTo_len {L : List Ent} (h : LOk L) : ∀ k, k ≤ L.length → (joinTo L k).length ≤ 250 * k
  | 0, _ => by simp [joinTo]
  | k + 1, hk => by
    have := joinTo_len h k (by omega)
    have l := fmtE_len (entOk_e (h.1 k (by omega)).1)
    unfold joinTo
    simp only [List.length_append]
    split <;> simp <;> omega
theorem joinTo_join (L : List Ent) : Lib.join (L.map fmtE) [59] = joinTo L L.length := by
  cases L with
  | nil => rfl
  | cons x r =>
    rw [List.map_cons, Lib.join_cons]
    have h : ∀ k, k ≤ r.length → fmtE x ++ Lib.joinTail [59] ((r.map fmtE).take k) = joinTo (x :: r) (k + 1) := by
      intro k
      induction k with
      | zero => intro _; simp [joinTo, Lib.joinTail, gE]
      | succ k ih =>
        intro hk
        have hy : (r.map fmtE)[k]? = some (fmtE (gE (x :: r) (k + 1))) := by
          rw [List.getElem?_map, List.getElem?_eq_getElem (by omega)]
          simp [gE, List.getD, List.getElem?_eq_getElem (show k < r.length by omega)]
        rw [Lib.joinTail_take_succ _ _ _ _ hy]
        have e := ih (by omega)
        rw [show joinTo (x :: r) (k + 1 + 1) = joinTo (x :: r) (k + 1) ++ (if 0 < k + 1 then [59] else []) ++ fmtE (gE (x :: r) (k + 1)) from rfl, ← e, if_pos (by omega)]
        simp [List.append_assoc]
    have := h r.length (Nat.le_refl _)
    rw [List.take_of_length_le (by simp)] at this
    exact this
set_option maxRecDepth 100000 in
set_option maxHeartbeats 4000000 in
theorem specFormatLogA (a : Option Addr) (c : Nat) (L : List Ent) (w : World) (hl : L.length ≤ 2097152) (ha : AtE w a L) :
    Calls Tryd.prog 55 #[.slice a L.length c] w fun e w' => e = .returned (str (fmtL L)) ∧ Below w.heap.size w w' := by
  have C1 := Lib.hid (specIsLogA a c L w hl ha)
  have HA := Lib.hid ha
  clear ha
  by_cases he : LOk L
  · have hO : decide (LOk L) = true := decide_eq_true he
    rw [hO] at C1
    by_cases h0 : L.length = 0
    · have HF := Lib.hid (show fmtL L = wordNone by unfold fmtL; rw [if_pos he, if_pos h0])
      obtain rfl : L = [] := List.eq_nil_of_length_eq_zero h0
      clear he hO h0
      go_enter Tryd.func55, Tryd.ntmps55
      go_wp2_with (go_at_call 86; refine (C1.out).mono ?_; rintro e w1 ⟨rfl, hb1⟩)
      go_ret
      exact ⟨by rw [HF.out]; rfl, hb1⟩
    · have HF := Lib.hid (show fmtL L = joinTo L L.length by unfold fmtL; rw [if_pos he, if_neg h0])
      have g0 : ((L.length : Int) == 0) = false := by rw [beq_eq_false_iff_ne]; omega
      have HO := Lib.hid he
      have h16 := he.2
      clear he hO
      go_enter Tryd.func55, Tryd.ntmps55
      go_wp2_with (go_at_call 86; refine (C1.out).mono ?_; rintro e w1 ⟨rfl, hb1⟩)
      have HB1 := Lib.hid hb1
      clear hb1 g0
      go_loopw [3, 4] (fun s i wr => ∃ k : Nat, k ≤ L.length ∧ i = .int .i64 k ∧ s = str (joinTo L k) ∧ Hid (Below w.heap.size w wr)) (fun _ i _ => L.length - (intOf i).toNat)
      case atStart => exact ⟨0, Nat.zero_le _, rfl, rfl, HB1⟩
      case round =>
        obtain ⟨k, hk, rfl, rfl, HQ⟩ := hrel
        by_cases hlt : k < L.length
        · obtain ⟨g, o, rfl, hg, hc⟩ := HA.out k hlt
          obtain ⟨c0, c1, c2, c3, c4, c5, c6⟩ := hc.below HQ.out hg
          have hv := (HO.out.1 k hlt).1
          have he := entOk_e hv
          have HT := Lib.hid (show joinTo L (k + 1) = joinTo L k ++ (if 0 < k then [59] else []) ++ fmtE (gE L k) from rfl)
          have hS := joinTo_len HO.out k (by omega)
          have hfo := fmtO_len (gE L k).c (gE L k).s (gE L k).k (gE L k).o (gE L k).d (gE L k).v
          unfold fmtE at HT
          clear hv
          generalize joinTo L k = S at *
          obtain ⟨xe, xc, xs, xk, xo, xd, xv, hx⟩ : ∃ xe xc xs xk xo xd xv, gE L k = ⟨xe, xc, xs, xk, xo, xd, xv⟩ := ⟨_, _, _, _, _, _, _, rfl⟩
          rw [hx] at c0 c1 c2 c3 c4 c5 c6 he HT hfo
          simp only at c0 c1 c2 c3 c4 c5 c6 he HT hfo
          clear hx hc
          have hgr : g < wr.heap.size := Nat.lt_of_lt_of_le hg HQ.out.size
          have q0 := LaterOf.cell (a := ⟨g, o + k * 7, none⟩) hgr c0
          have q1 := LaterOf.cell (a := ⟨g, o + k * 7 + 1, none⟩) hgr c1
          have q2 := LaterOf.cell (a := ⟨g, o + k * 7 + 2, none⟩) hgr c2
          have q3 := LaterOf.cell (a := ⟨g, o + k * 7 + 3, none⟩) hgr c3
          have q4 := LaterOf.cell (a := ⟨g, o + k * 7 + 4, none⟩) hgr c4
          have q5 := LaterOf.cell (a := ⟨g, o + k * 7 + 5, none⟩) hgr c5
          have q6 := LaterOf.cell (a := ⟨g, o + k * 7 + 6, none⟩) hgr c6
          clear c0 c1 c2 c3 c4 c5 c6
          have hle := itoa_le xe (by omega) (by omega)
          have j1 := fun W => specFormatInt xe W (by omega) (by omega)
          have j2 := fun W => specFormatOp xc xs xk xo xd xv W
          unfold opV at j2
          have J1 : ∀ W, Hid _ := fun W => Lib.hid (j1 W)
          have J2 : ∀ W, Hid _ := fun W => Lib.hid (j2 W)
          clear j1 j2 he
          generalize fmtO xc xs xk xo xd xv = fo at *
          generalize Lib.itoa xe = fe at *
          have k3 : (0 : Int) ≤ (k : Int) := by omega
          have k5 : (k : Int) < (L.length : Int) := by omega
          by_cases h0 : 0 < k
          · rw [if_pos h0] at HT
            have i1 : decide ((0 : Int) < (k : Int)) = true := by simp; omega
            have e0 : ¬ (9223372036854775807 < S.length + 1) := by omega
            have e1 : ¬ (9223372036854775807 < S.length + 1 + fe.length) := by omega
            have e2 : ¬ (9223372036854775807 < S.length + 1 + fe.length + 1) := by omega
            have e3 : ¬ (9223372036854775807 < S.length + 1 + fe.length + 1 + fo.length) := by omega
            go_wp2_with fail
            refine wp_region_later (by kernel_rfl) (by kernel_rfl) ?_
            repeat (go_big_quiet_step (first | (with_reducible exact Calls.later_of (J1 _).out) | (with_reducible exact Calls.later_of (J2 _).out)))
            refine wpQuiet_nil ?_
            intro _ hw'
            obtain ⟨⟨wz, hwz⟩, hw''⟩ := hw'
            subst hw''
            have HZ := Lib.hid (HQ.out.trans (hwz.mono HQ.out.size))
            clear hwz
            go_wp2_with fail
            go_roundw
            case rel => exact ⟨k + 1, by omega, by go_num, by rw [HT.out]; exact congrArg Value.string (by apply ByteArray.ext; apply Array.ext'; simp), HZ⟩
            case measure => simp [intOf]; omega
          · rw [if_neg h0] at HT
            have i1 : decide ((0 : Int) < (k : Int)) = false := by simp; omega
            have e1 : ¬ (9223372036854775807 < S.length + fe.length) := by omega
            have e2 : ¬ (9223372036854775807 < S.length + fe.length + 1) := by omega
            have e3 : ¬ (9223372036854775807 < S.length + fe.length + 1 + fo.length) := by omega
            go_wp2_with fail
            refine wp_region_later (by kernel_rfl) (by kernel_rfl) ?_
            repeat (go_big_quiet_step (first | (with_reducible exact Calls.later_of (J1 _).out) | (with_reducible exact Calls.later_of (J2 _).out)))
            refine wpQuiet_nil ?_
            intro _ hw'
            obtain ⟨⟨wz, hwz⟩, hw''⟩ := hw'
            subst hw''
            have HZ := Lib.hid (HQ.out.trans (hwz.mono HQ.out.size))
            clear hwz
            go_wp2_with fail
            go_roundw
            case rel => exact ⟨k + 1, by omega, by go_num, by rw [HT.out]; exact congrArg Value.string (by apply ByteArray.ext; apply Array.ext'; simp), HZ⟩
            case measure => simp [intOf]; omega
        · obtain rfl : k = L.length := by omega
          clear hlt hk
          go_wp2_with fail
          go_ret
          exact ⟨by rw [HF.out]; rfl, HQ.out⟩
  · have HF := Lib.hid (show fmtL L = [] by unfold fmtL; rw [if_neg he])
    rw [decide_eq_false he] at C1
    clear he
    go_enter Tryd.func55, Tryd.ntmps55
    go_wp2_with (go_at_call 86; refine (C1.out).mono ?_; rintro e w1 ⟨rfl, hb1⟩)
    go_ret
    exact ⟨by rw [HF.out]; rfl, hb1⟩
theorem specFormatLog (b : Nat) (v : Value) (L : List Ent) (w : World) (h : L.length ≤ 2097152) (o : OwnE b w v L) :
    Calls Tryd.prog 55 #[v] w fun e w' => e = .returned (.string ⟨(fmtL L).toArray⟩) ∧ Below w.heap.size w w' := by
  obtain ⟨a, c, rfl, _, _, at1, _⟩ := o.form
  exact specFormatLogA a c L w h at1
end Go.Proofs.YtkkgonkpmdlelaaDoor.kit
