/-
  The law of logs, walked: for every code.
-/
import Derived.Test.YtbnepdecfnhgoaaLogDraw
import Derived.Test.YtbnepdecfnhgoaaS5Pre
import Derived.Test.YtbnepdecfnhgoaaS5App
import Derived.Test.YtbnepdecfnhgoaaS5Rep
import Derived.Test.YtbnepdecfnhgoaaS5Res
import Derived.Test.YtbnepdecfnhgoaaS4Equal
import Derived.Test.YtbnepdecfnhgoaaInvK
import Derived.Deep.DeepCutAuto
import Derived.Deep.RegionWith
namespace Go.Proofs.Ytbnepdecfnhgoaa.fnLogs
open Go.ChangeShapes Go.WideShapes Go.ChangeAt Go.RowKit
open Go.ChangeMaps (open_string shut_string)
open kit
set_option linter.unusedVariables false
set_option linter.unusedSimpArgs false

theorem comPre_comm : ∀ a b : List Ent, comPre a b = comPre b a
  | [], [] => rfl
  | [], _ :: _ => rfl
  | _ :: _, [] => rfl
  | x :: a, y :: b => by
    unfold comPre
    by_cases h : x = y
    · rw [if_pos h, if_pos h.symm, comPre_comm a b]
    · rw [if_neg h, if_neg (fun e => h e.symm)]
theorem comPre_take : ∀ (a b : List Ent) (k : Nat), k ≤ comPre a b → comPre (a.take k) b = k
  | [], b, k, h => by
    have : k = 0 := by simpa [comPre] using h
    subst this; rfl
  | x :: a, [], k, h => by
    have : k = 0 := by simpa [comPre] using h
    subst this; rfl
  | x :: a, y :: b, 0, h => rfl
  | x :: a, y :: b, k + 1, h => by
    unfold comPre at h
    by_cases e : x = y
    · rw [if_pos e] at h
      rw [List.take_succ_cons]
      unfold comPre
      rw [if_pos e, comPre_take a b k (by omega)]
    · rw [if_neg e] at h; omega
theorem comPre_app : ∀ a r : List Ent, comPre a (a ++ r) = a.length
  | [], r => by cases r <;> rfl
  | x :: a, r => by
    rw [List.cons_append]
    unfold comPre
    rw [if_pos rfl, comPre_app a r]; rfl
theorem isPre_take (a b : List Ent) : isPre (a.take (comPre a b)) b = true := by
  unfold isPre
  rw [comPre_take a b _ (Nat.le_refl _), List.length_take, Nat.min_eq_left (comPre_le a b).1]
  exact decide_eq_true rfl
theorem isPre_app (a r : List Ent) : isPre a (a ++ r) = true := decide_eq_true (comPre_app a r)
theorem isPre_self (a : List Ent) : isPre a a = true := by have := isPre_app a []; simpa using this
theorem implIsPrefixTake (b1 : Nat) (a1 : Option Addr) (q1 : Nat) (l1 : List Ent) (b2 : Nat) (v2 : Value) (l2 : List Ent) (k : Nat) (w : World) (hk : k ≤ l1.length) (h1 : l1.length ≤ 2097152) (o1 : OwnE b1 w (.slice a1 l1.length q1) l1) (h2 : l2.length ≤ 2097152) (o2 : OwnE b2 w v2 l2) :
    Calls Try.prog 22 #[.slice a1 k q1, v2] w fun e w' => e = .returned (.bool (isPre (l1.take k) l2)) ∧ Below w.heap.size w w' := by
  obtain ⟨a1', c1, e1, _, _, t1, _⟩ := o1.form
  injection e1 with e1 e2 e3
  subst e1 e3
  obtain ⟨a2, c2, rfl, _, _, t2, _⟩ := o2.form
  have h := implIsPrefixA a1 a2 q1 c2 (l1.take k) l2 w (by rw [List.length_take]; omega) h2 (AtE.take t1 k) t2
  rw [List.length_take, Nat.min_eq_left hk] at h
  exact h.mono fun _ _ ⟨h, d⟩ => ⟨h, d.below _⟩

set_option maxRecDepth 100000 in
set_option maxHeartbeats 8000000 in
theorem walk (a0 : Option Addr) (len0 cap0 : Nat) (z0 : List Int) (w : World) (w0 : IsRow .u8 w a0 len0 cap0 z0) :
    Calls Try.prog 4 #[.slice a0 len0 cap0] w fun e w' => e = .returned (.bool true) ∧ Below w.heap.size w w' := by
  have hl : len0 ≤ 9223372036854775807 := by
    rcases w0 with ⟨_, h, _⟩ | ⟨_, _, h1, h2, _⟩
    · omega
    · unfold maxLen at h2; omega
  have hcode := Lib.hid (code_of_row w0)
  clear w0
  by_cases hbig : 1048576 < len0
  · have CB := Lib.hid (big_yes a0 len0 cap0 w hbig hl)
    clear hbig
    go_enter Try.func4, Try.ntmps4
    go_wp2_with fail
    refine (CB.out).mono ?_
    rintro e w1 ⟨rfl, rfl⟩
    go_wp2_with fail
    go_ret
    exact ⟨rfl, Below.refl _ _⟩
  · have CB := Lib.hid (big_no a0 len0 cap0 w hbig)
    clear hbig
    have C1 := Lib.hid (drawCommonPrefix a0 len0 cap0 z0 w hcode.out)
    go_enter Try.func4, Try.ntmps4
    go_wp2_with fail
    refine (CB.out).mono ?_
    rintro e w1 ⟨rfl, rfl⟩
    go_wp2_with fail
    refine (C1.out).mono ?_
    rintro e w1 ⟨va, vb, La, Lb, rfl, hla, hlb, hoa, hob, hb1⟩
    obtain ⟨ya, qa, rfl⟩ := hoa.shape
    obtain ⟨yb, qb, rfl⟩ := hob.shape
    have hqa : La.length ≤ qa := by
      obtain ⟨_, _, h', hle, _⟩ := hoa.form
      cases h'
      exact hle
    have HOA := Lib.hid hoa
    have HOB := Lib.hid hob
    have HB := Lib.hid hb1
    clear hoa hob hb1 C1 CB
    have hcl := comPre_le La Lb
    have HBA := Lib.hid (comPre_comm Lb La)
    have HT := Lib.hid (isPre_take La Lb)
    have hdef : isPre La Lb = (((comPre La Lb : Nat) : Int) == (La.length : Int)) := by
      unfold isPre
      rw [Bool.eq_iff_iff, decide_eq_true_iff, beq_iff_eq]
      omega
    have HD := Lib.hid hdef
    clear hdef
    -- the common prefix, both ways
    have J := Lib.hid (implCommonPrefix _ _ La _ _ Lb w1 (by omega) HOA.out (by omega) HOB.out)
    go_wp2_with fail
    refine (J.out).mono ?_
    rintro e w2 ⟨rfl, hbk⟩
    replace HOA := Lib.hid (HOA.out.later hbk)
    replace HOB := Lib.hid (HOB.out.later hbk)
    replace HB := Lib.hid (HB.out.trans (hbk.mono HB.out.size))
    clear hbk J
    have J := Lib.hid (specCommonPrefix _ _ La _ _ Lb w2 (by omega) HOA.out (by omega) HOB.out)
    have tk : (((comPre La Lb : Nat) : Int) != ((comPre La Lb : Nat) : Int)) = false := by simp
    have t1 : decide (((comPre La Lb : Nat) : Int) > (La.length : Int)) = false := decide_eq_false (by omega)
    have t2 : decide (((comPre La Lb : Nat) : Int) > (Lb.length : Int)) = false := decide_eq_false (by omega)
    have R := fun W => run_uptoV W ya La.length qa (comPre La Lb) (by omega)
    go_wp2_with fail
    refine (J.out).mono ?_
    rintro e w3 ⟨rfl, hbk⟩
    replace HOA := Lib.hid (HOA.out.later hbk)
    replace HOB := Lib.hid (HOB.out.later hbk)
    replace HB := Lib.hid (HB.out.trans (hbk.mono HB.out.size))
    clear hbk J
    have J0 := implCommonPrefix _ _ Lb _ _ La w3 (by omega) HOB.out (by omega) HOA.out
    rw [HBA.out] at J0
    have J := Lib.hid J0
    clear J0
    go_wp2_with fail
    refine (J.out).mono ?_
    rintro e w4 ⟨rfl, hbk⟩
    replace HOA := Lib.hid (HOA.out.later hbk)
    replace HOB := Lib.hid (HOB.out.later hbk)
    replace HB := Lib.hid (HB.out.trans (hbk.mono HB.out.size))
    clear hbk J
    have J0 := implIsPrefixTake _ _ _ La _ _ Lb (comPre La Lb) w4 hcl.1 (by omega) HOA.out (by omega) HOB.out
    rw [HT.out] at J0
    have J := Lib.hid J0
    clear J0
    go_wp2_with fail
    refine (J.out).mono ?_
    rintro e w5 ⟨rfl, hbk⟩
    replace HOA := Lib.hid (HOA.out.later hbk)
    replace HOB := Lib.hid (HOB.out.later hbk)
    replace HB := Lib.hid (HB.out.trans (hbk.mono HB.out.size))
    clear hbk J
    have J0 := implIsPrefix _ _ La _ _ Lb w5 (by omega) HOA.out (by omega) HOB.out
    rw [HD.out] at J0
    have J := Lib.hid J0
    clear J0
    have tn : ((((comPre La Lb : Nat) : Int) == (La.length : Int)) != (((comPre La Lb : Nat) : Int) == (La.length : Int))) = false := by simp
    go_wp2_with fail
    refine (J.out).mono ?_
    rintro e w6 ⟨rfl, hbk⟩
    replace HOA := Lib.hid (HOA.out.later hbk)
    replace HOB := Lib.hid (HOB.out.later hbk)
    replace HB := Lib.hid (HB.out.trans (hbk.mono HB.out.size))
    clear hbk J
    have C2 := Lib.hid (drawResultAt a0 len0 cap0 z0 w6 (hcode.out.below HB.out))
    go_wp2_with fail
    refine (C2.out).mono ?_
    rintro e w7 ⟨v, L, i, rfl, hL, hi0, hi1, ho, hbk⟩
    obtain ⟨yv, qv, rfl⟩ := ho.shape
    have HO := Lib.hid ho
    replace HB := Lib.hid (HB.out.trans (hbk.mono HB.out.size))
    clear ho hbk C2 HOA HOB HBA HT HD hcl tk t1 t2 tn R hla hlb hqa
    have J := Lib.hid (implResultAt _ _ L i w7 (by omega) HO.out)
    have JS := Lib.hid (fun W (O : OwnE w6.heap.size W (.slice yv L.length qv) L) => specResultAt _ _ L i W (by omega) O)
    generalize resD L i = rD at *
    generalize resV L i = rV at *
    generalize resB L i = rB at *
    go_wp2_with fail
    refine (J.out).mono ?_
    rintro e w8 ⟨rfl, hbk⟩
    replace HO := Lib.hid (HO.out.later hbk)
    replace HB := Lib.hid (HB.out.trans (hbk.mono HB.out.size))
    clear hbk J
    go_wp2_with fail
    have hbA := (Below.refl w8.heap.size w8).alloc (Nat.le_refl _) (.cells #[.bool rD, .int .i64 rV] 33)
    have B1 := Lib.hid (Box2.new w8 33 (.bool rD) (.int .i64 rV))
    replace HO := Lib.hid (HO.out.later hbA)
    replace HB := Lib.hid (HB.out.trans (hbA.mono HB.out.size))
    clear hbA
    refine (JS.out _ HO.out).mono ?_
    rintro e w9 ⟨rfl, hbk⟩
    replace HO := Lib.hid (HO.out.later hbk)
    replace B1 := Lib.hid (B1.out.later hbk)
    replace HB := Lib.hid (HB.out.trans (hbk.mono HB.out.size))
    clear hbk JS
    have hbA := (Below.refl w9.heap.size w9).alloc (Nat.le_refl _) (.cells #[.bool rD, .int .i64 rV] 33)
    have B2 := Lib.hid (Box2.new w9 33 (.bool rD) (.int .i64 rV))
    replace HO := Lib.hid (HO.out.later hbA)
    replace B1 := Lib.hid (B1.out.later hbA)
    replace HB := Lib.hid (HB.out.trans (hbA.mono HB.out.size))
    clear hbA
    have J := Lib.hid (implReplayLog _ _ L _ (by omega) HO.out)
    have JS := Lib.hid (fun W (O : OwnE w6.heap.size W (.slice yv L.length qv) L) => specReplayLog _ _ L W (by omega) O)
    have hlo := replayO_len L
    have hls := replayS_len L
    generalize replayO L = mO at *
    generalize replayS L = mS at *
    generalize decide (LOk L) = bL at *
    go_wp2_with fail
    refine (J.out).mono ?_
    rintro e w10 ⟨u1, u2, rfl, ho1, ho2, hbk⟩
    obtain ⟨y1, q1, rfl⟩ := ho1.shape
    obtain ⟨y2, q2, rfl⟩ := ho2.shape
    have H1 := Lib.hid ho1
    have H2 := Lib.hid ho2
    replace HO := Lib.hid (HO.out.later hbk)
    replace B1 := Lib.hid (B1.out.later hbk)
    replace B2 := Lib.hid (B2.out.later hbk)
    replace HB := Lib.hid (HB.out.trans (hbk.mono HB.out.size))
    clear hbk J ho1 ho2
    go_wp2_with fail
    have hbA := (Below.refl w10.heap.size w10).alloc (Nat.le_refl _) (.cells #[.slice y1 mO.length q1, .slice y2 mS.length q2] 27)
    have B3 := Lib.hid (Box2.new w10 27 (.slice y1 mO.length q1) (.slice y2 mS.length q2))
    replace H1 := Lib.hid (H1.out.later hbA)
    replace H2 := Lib.hid (H2.out.later hbA)
    replace HO := Lib.hid (HO.out.later hbA)
    replace B1 := Lib.hid (B1.out.later hbA)
    replace B2 := Lib.hid (B2.out.later hbA)
    replace HB := Lib.hid (HB.out.trans (hbA.mono HB.out.size))
    clear hbA
    refine (JS.out _ HO.out).mono ?_
    rintro e w11 ⟨u3, u4, rfl, ho3, ho4, hbk⟩
    obtain ⟨y3, q3, rfl⟩ := ho3.shape
    obtain ⟨y4, q4, rfl⟩ := ho4.shape
    have H3 := Lib.hid ho3
    have H4 := Lib.hid ho4
    replace H1 := Lib.hid (H1.out.later hbk)
    replace H2 := Lib.hid (H2.out.later hbk)
    replace B1 := Lib.hid (B1.out.later hbk)
    replace B2 := Lib.hid (B2.out.later hbk)
    replace B3 := Lib.hid (B3.out.later hbk)
    replace HB := Lib.hid (HB.out.trans (hbk.mono HB.out.size))
    clear hbk JS ho3 ho4 HO
    go_upto_region 12 with (fail)
    have hbA := (Below.refl w11.heap.size w11).alloc (Nat.le_refl _) (.cells #[.slice y3 mO.length q3, .slice y4 mS.length q4] 27)
    have B4 := Lib.hid (Box2.new w11 27 (.slice y3 mO.length q3) (.slice y4 mS.length q4))
    replace H1 := Lib.hid (H1.out.later hbA)
    replace H2 := Lib.hid (H2.out.later hbA)
    replace H3 := Lib.hid (H3.out.later hbA)
    replace H4 := Lib.hid (H4.out.later hbA)
    replace B1 := Lib.hid (B1.out.later hbA)
    replace B2 := Lib.hid (B2.out.later hbA)
    replace B3 := Lib.hid (B3.out.later hbA)
    replace HB := Lib.hid (HB.out.trans (hbA.mono HB.out.size))
    have hne := B3.out.lt
    obtain ⟨W, hW⟩ : ∃ W, W = w11.alloc (.cells #[.slice y3 mO.length q3, .slice y4 mS.length q4] 27) := ⟨_, rfl⟩
    rw [← hW] at H1 H2 H3 H4 B1 B2 B3 B4 HB ⊢
    clear hbA hW hne
    have J0 := implEqualMachines _ _ _ _ mO mS _ _ _ _ mO mS W hlo hls H1.out H2.out hlo hls H3.out H4.out
    rw [decide_eq_true ⟨rfl, rfl⟩] at J0
    have J := Lib.hid J0
    clear J0 H1 H2 H3 H4 hlo hls
    have b1 := B1.out.c0
    have b2 := B1.out.c1
    have b3 := B2.out.c0
    have b4 := B2.out.c1
    have b5 := B3.out.c0
    have b6 := B3.out.c1
    have b7 := B4.out.c0
    have b8 := B4.out.c1
    clear B1 B2 B3 B4
    have t1 : (rB != rB) = false := by simp
    have t2 : (bL != bL) = false := by simp
    have t3 : (rD == rD) = true := by simp
    have t4 : (rV == rV) = true := by simp
    go_wp2_with fail
    refine (J.out).mono ?_
    rintro e w12 ⟨rfl, hbk⟩
    replace HB := Lib.hid (HB.out.trans (hbk.mono HB.out.size))
    clear hbk J b1 b2 b3 b4 b5 b6 b7 b8 t1 t2 t3 t4
    have C3 := Lib.hid (drawAppendEntry a0 len0 cap0 z0 w12 (hcode.out.below HB.out))
    go_wp2_with fail
    refine (C3.out).mono ?_
    rintro e w13 ⟨vx, X, x, c, s, k, o, d, v, rfl, hX, ho, hbk⟩
    obtain ⟨yx, qx, rfl⟩ := ho.shape
    have HO := Lib.hid ho
    replace HB := Lib.hid (HB.out.trans (hbk.mono HB.out.size))
    clear ho hbk C3
    have hlen := appE_len X ⟨x, c, s, k, o, d, v⟩ (by omega)
    have hself := Lib.hid (isPre_self (appE X ⟨x, c, s, k, o, d, v⟩))
    have hyes : appEok X ⟨x, c, s, k, o, d, v⟩ = true → decide (LOk (appE X ⟨x, c, s, k, o, d, v⟩)) = true ∧ isPre X (appE X ⟨x, c, s, k, o, d, v⟩) = true := fun h => by
      unfold appE
      rw [if_pos h]
      unfold appEok at h
      exact ⟨h, isPre_app _ _⟩
    have HY := Lib.hid hyes
    clear hyes
    go_wp2_with fail
    have hbA := (Below.refl w13.heap.size w13).alloc (Nat.le_refl _) (.cells #[.int .i64 x, .int .i64 c, .int .i64 s, .int .i64 k, .int .i64 o, .int .i64 d, .int .i64 v] 56)
    have XA := Lib.hid (XAt.alloc w13 (e := x) (c := c) (s := s) (k := k) (o := o) (d := d) (v := v))
    replace HO := Lib.hid (HO.out.later hbA)
    replace HB := Lib.hid (HB.out.trans (hbA.mono HB.out.size))
    clear hbA
    have JS := Lib.hid (fun W (O : OwnE w12.heap.size W (.slice yx X.length qx) X) => specAppendEntry _ _ X x c s k o d v W (by omega) O)
    refine (implAppendEntry _ _ X x c s k o d v _ (by omega) HO.out).mono ?_
    rintro e w14 ⟨u5, rfl, ho5, hbk⟩
    generalize appE X ⟨x, c, s, k, o, d, v⟩ = Y at *
    generalize appEok X ⟨x, c, s, k, o, d, v⟩ = ok at *
    obtain ⟨y5, q5, rfl⟩ := ho5.shape
    have H5 := Lib.hid ho5
    replace HO := Lib.hid (HO.out.later hbk)
    replace XA := Lib.hid (XA.out.later hbk)
    replace HB := Lib.hid (HB.out.trans (hbk.mono HB.out.size))
    clear ho5 hbk
    obtain ⟨b0, b1, b2, b3, b4, b5, b6, -, -, -, -, -, -, -⟩ := XA.out
    clear XA
    have J := Lib.hid (JS.out w14 HO.out)
    clear JS
    go_wp2_with fail
    refine (J.out).mono ?_
    rintro e w15 ⟨u6, rfl, ho6, hbk⟩
    obtain ⟨y6, q6, rfl⟩ := ho6.shape
    have H6 := Lib.hid ho6
    replace H5 := Lib.hid (H5.out.later hbk)
    replace HO := Lib.hid (HO.out.later hbk)
    replace HB := Lib.hid (HB.out.trans (hbk.mono HB.out.size))
    clear ho6 hbk J b0 b1 b2 b3 b4 b5 b6
    have J0 := implIsPrefix _ _ Y _ _ Y w15 hlen H5.out hlen H6.out
    rw [hself.out] at J0
    have J := Lib.hid J0
    clear J0 hself
    have t1 : (ok == ok) = true := by simp
    have t2 : ((Y.length : Int) == (Y.length : Int)) = true := by simp
    cases ok with
    | false =>
      clear HY
      go_wp2_with fail
      refine (J.out).mono ?_
      rintro e w16 ⟨rfl, hbk⟩
      go_wp2_with fail
      go_ret
      exact ⟨rfl, HB.out.trans (hbk.mono HB.out.size)⟩
    | true =>
      go_wp2_with fail
      refine (J.out).mono ?_
      rintro e w16 ⟨rfl, hbk⟩
      replace H5 := Lib.hid (H5.out.later hbk)
      replace HO := Lib.hid (HO.out.later hbk)
      replace HB := Lib.hid (HB.out.trans (hbk.mono HB.out.size))
      clear hbk J t1 t2
      have J0 := implIsLog _ _ Y w16 hlen H5.out
      rw [(HY.out (by simp)).1] at J0
      have J := Lib.hid J0
      clear J0
      go_wp2_with fail
      refine (J.out).mono ?_
      rintro e w17 ⟨rfl, hbk⟩
      replace H5 := Lib.hid (H5.out.later hbk)
      replace HO := Lib.hid (HO.out.later hbk)
      replace HB := Lib.hid (HB.out.trans (hbk.mono HB.out.size))
      clear hbk J
      have J0 := implIsPrefix _ _ X _ _ Y w17 (by omega) HO.out hlen H5.out
      rw [(HY.out (by simp)).2] at J0
      have J := Lib.hid J0
      clear J0
      go_wp2_with fail
      refine (J.out).mono ?_
      rintro e w18 ⟨rfl, hbk⟩
      go_wp2_with fail
      go_ret
      exact ⟨rfl, HB.out.trans (hbk.mono HB.out.size)⟩
end Go.Proofs.Ytbnepdecfnhgoaa.fnLogs
