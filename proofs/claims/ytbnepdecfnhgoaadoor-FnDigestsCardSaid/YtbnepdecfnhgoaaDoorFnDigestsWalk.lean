/-
  The law of digests, walked: for every code.
-/
import Derived.Test.YtbnepdecfnhgoaaDoorBig
import Derived.Test.YtbnepdecfnhgoaaDoorS6Draw
import Derived.Deep.DeepCutAuto
import Derived.Deep.RegionWith
namespace Go.Proofs.YtbnepdecfnhgoaaDoor.fnDigests
open Go.ChangeShapes Go.WideShapes Go.ChangeAt Go.RowKit
open Go.ChangeMaps (open_string shut_string)
open kit
set_option linter.unusedVariables false
set_option linter.unusedSimpArgs false

set_option maxRecDepth 100000 in
set_option maxHeartbeats 8000000 in
theorem walk (a0 : Option Addr) (len0 cap0 : Nat) (z0 : List Int) (w : World) (w0 : IsRow .u8 w a0 len0 cap0 z0) (hT : Tab w) :
    Calls Tryd.prog 3 #[.slice a0 len0 cap0] w fun e w' => e = .returned (.bool true) ∧ Below w.heap.size w w' := by
  have hl : len0 ≤ 9223372036854775807 := by
    rcases w0 with ⟨_, h, _⟩ | ⟨_, _, h1, h2, _⟩
    · omega
    · unfold maxLen at h2; omega
  have hcode := Lib.hid (code_of_row w0)
  have HT := Lib.hid hT
  clear w0 hT
  by_cases hbig : 1048576 < len0
  · have CB := Lib.hid (big_yes a0 len0 cap0 w hbig hl)
    clear hbig
    go_enter Tryd.func3, Tryd.ntmps3
    go_wp2_with fail
    refine (CB.out).mono ?_
    rintro e w1 ⟨rfl, rfl⟩
    go_wp2_with fail
    go_ret
    exact ⟨rfl, Below.refl _ _⟩
  · have CB := Lib.hid (big_no a0 len0 cap0 w hbig)
    clear hbig
    have C1 := Lib.hid (drawCommonPrefix a0 len0 cap0 z0 w hcode.out)
    go_enter Tryd.func3, Tryd.ntmps3
    go_wp2_with fail
    refine (CB.out).mono ?_
    rintro e w1 ⟨rfl, rfl⟩
    go_wp2_with fail
    refine (C1.out).mono ?_
    rintro e w1 ⟨va, vb, La, Lb, rfl, hla, hlb, hoa, hob, hb1⟩
    obtain ⟨ya, qa, rfl⟩ := hoa.shape
    obtain ⟨yb, qb, rfl⟩ := hob.shape
    have HOA := Lib.hid hoa
    have HOB := Lib.hid hob
    have HB := Lib.hid hb1
    clear hoa hob hb1 C1 CB
    have hlA := digL_len La
    have hlB := digL_len Lb
    -- the two lists of digests, by impl
    have J := Lib.hid (implDigestList _ _ La w1 (by omega) HOA.out (HT.out.below HB.out))
    go_wp2_with fail
    refine (J.out).mono ?_
    rintro e w2 ⟨x, rfl, hox, hb2⟩
    obtain ⟨yx, qx, rfl⟩ := hox.shape
    have HX := Lib.hid hox
    replace HOA := Lib.hid (HOA.out.later hb2)
    replace HOB := Lib.hid (HOB.out.later hb2)
    replace HB := Lib.hid (HB.out.trans (hb2.mono HB.out.size))
    clear hox hb2 J
    have J := Lib.hid (implDigestList _ _ Lb w2 (by omega) HOB.out (HT.out.below HB.out))
    go_wp2_with fail
    refine (J.out).mono ?_
    rintro e w3 ⟨y, rfl, hoy, hb3⟩
    obtain ⟨yy, qy, rfl⟩ := hoy.shape
    have HY := Lib.hid hoy
    replace HX := Lib.hid (HX.out.later hb3)
    replace HOA := Lib.hid (HOA.out.later hb3)
    replace HOB := Lib.hid (HOB.out.later hb3)
    replace HB := Lib.hid (HB.out.trans (hb3.mono HB.out.size))
    clear hoy hb3 J
    -- by spec
    have J := Lib.hid (specDigestList _ _ La w3 (by omega) HOA.out)
    go_wp2_with fail
    refine (J.out).mono ?_
    rintro e w4 ⟨p, rfl, hop, hb4⟩
    replace HX := Lib.hid (HX.out.later hb4)
    replace HY := Lib.hid (HY.out.later hb4)
    replace HOA := Lib.hid (HOA.out.later hb4)
    replace HOB := Lib.hid (HOB.out.later hb4)
    replace HB := Lib.hid (HB.out.trans (hb4.mono HB.out.size))
    clear hb4 J
    have J := Lib.hid (sameInts _ _ (digL La) _ p (digL La) w4 hlA HX.out hlA hop)
    rw [decide_eq_true rfl] at J
    go_wp2_with fail
    refine (J.out).mono ?_
    rintro e w5 ⟨rfl, hb5⟩
    replace HX := Lib.hid (HX.out.later hb5)
    replace HY := Lib.hid (HY.out.later hb5)
    replace HOA := Lib.hid (HOA.out.later hb5)
    replace HOB := Lib.hid (HOB.out.later hb5)
    replace HB := Lib.hid (HB.out.trans (hb5.mono HB.out.size))
    clear hop hb5 J
    have J := Lib.hid (specDigestList _ _ Lb w5 (by omega) HOB.out)
    go_wp2_with fail
    refine (J.out).mono ?_
    rintro e w6 ⟨p2, rfl, hop, hb6⟩
    replace HX := Lib.hid (HX.out.later hb6)
    replace HY := Lib.hid (HY.out.later hb6)
    replace HOA := Lib.hid (HOA.out.later hb6)
    replace HOB := Lib.hid (HOB.out.later hb6)
    replace HB := Lib.hid (HB.out.trans (hb6.mono HB.out.size))
    clear hb6 J
    have J := Lib.hid (sameInts _ _ (digL Lb) _ p2 (digL Lb) w6 hlB HY.out hlB hop)
    rw [decide_eq_true rfl] at J
    go_wp2_with fail
    refine (J.out).mono ?_
    rintro e w7 ⟨rfl, hb7⟩
    replace HX := Lib.hid (HX.out.later hb7)
    replace HY := Lib.hid (HY.out.later hb7)
    replace HOA := Lib.hid (HOA.out.later hb7)
    replace HOB := Lib.hid (HOB.out.later hb7)
    replace HB := Lib.hid (HB.out.trans (hb7.mono HB.out.size))
    clear hop hb7 J
    have J := Lib.hid (specCommonPrefix _ _ La _ _ Lb w7 (by omega) HOA.out (by omega) HOB.out)
    go_wp2_with fail
    refine (J.out).mono ?_
    rintro e w8 ⟨rfl, hb8⟩
    replace HX := Lib.hid (HX.out.later hb8)
    replace HY := Lib.hid (HY.out.later hb8)
    replace HOA := Lib.hid (HOA.out.later hb8)
    replace HOB := Lib.hid (HOB.out.later hb8)
    replace HB := Lib.hid (HB.out.trans (hb8.mono HB.out.size))
    clear hb8 J
    have J := Lib.hid (implFirstDifference _ _ (digL La) _ _ (digL Lb) w8 hlA HX.out hlB HY.out)
    have HK := Lib.hid (fun h1 h2 h3 => fdiff_behind (a := La) (b := Lb) h1 h2 h3)
    generalize hk : fdiff (digL La) (digL Lb) = k at *
    have HKE := Lib.hid hk
    clear hk
    go_wp2_with fail
    refine (J.out).mono ?_
    rintro e w9 ⟨rfl, hb9⟩
    replace HX := Lib.hid (HX.out.later hb9)
    replace HY := Lib.hid (HY.out.later hb9)
    replace HOA := Lib.hid (HOA.out.later hb9)
    replace HOB := Lib.hid (HOB.out.later hb9)
    replace HB := Lib.hid (HB.out.trans (hb9.mono HB.out.size))
    clear hb9 J
    have J0 := specFirstDifference _ _ (digL La) _ _ (digL Lb) w9 hlA HX.out hlB HY.out
    rw [HKE.out] at J0
    have J := Lib.hid J0
    clear J0 hlA hlB
    go_upto_region 10 with (fail)
    go_cut [62] (fun b wx => b = .bool false ∧ Below w.heap.size w wx)
    case first =>
      have tk : (k != k) = false := by simp
      go_wp2_with fail
      refine (J.out).mono ?_
      rintro e w10 ⟨rfl, hb10⟩
      replace HOA := Lib.hid (HOA.out.later hb10)
      replace HOB := Lib.hid (HOB.out.later hb10)
      replace HB := Lib.hid (HB.out.trans (hb10.mono HB.out.size))
      have J1 := Lib.hid (specIsLog _ _ La w10 (by omega) HOA.out)
      clear hb10 J
      cases hA : decide (LOk La) with
      | false =>
        rw [hA] at J1
        go_wp2_with fail
        refine (J1.out).mono ?_
        rintro e w11 ⟨rfl, hb11⟩
        go_wp2_with fail
        go_meet
        exact ⟨rfl, HB.out.trans (hb11.mono HB.out.size)⟩
      | true =>
        rw [hA] at J1
        go_wp2_with fail
        refine (J1.out).mono ?_
        rintro e w11 ⟨rfl, hb11⟩
        replace HOB := Lib.hid (HOB.out.later hb11)
        replace HB := Lib.hid (HB.out.trans (hb11.mono HB.out.size))
        have J2 := Lib.hid (specIsLog _ _ Lb w11 (by omega) HOB.out)
        clear hb11 J1
        cases hB : decide (LOk Lb) with
        | false =>
          rw [hB] at J2
          go_wp2_with fail
          refine (J2.out).mono ?_
          rintro e w12 ⟨rfl, hb12⟩
          go_wp2_with fail
          go_meet
          exact ⟨rfl, HB.out.trans (hb12.mono HB.out.size)⟩
        | true =>
          rw [hB] at J2
          have hgt := HK.out (of_decide_eq_true hA) (of_decide_eq_true hB)
          clear hA hB
          by_cases h0 : 0 ≤ k
          · have hgt := hgt h0
            have s1 : decide (k ≥ 0) = true := decide_eq_true h0
            have s2 : decide (k ≤ ((comPre La Lb : Nat) : Int)) = false := decide_eq_false (by omega)
            clear h0 hgt
            go_wp2_with fail
            refine (J2.out).mono ?_
            rintro e w12 ⟨rfl, hb12⟩
            go_wp2_with fail
            go_meet
            exact ⟨rfl, HB.out.trans (hb12.mono HB.out.size)⟩
          · have s1 : decide (k ≥ 0) = false := decide_eq_false h0
            clear h0 hgt
            go_wp2_with fail
            refine (J2.out).mono ?_
            rintro e w12 ⟨rfl, hb12⟩
            go_wp2_with fail
            go_meet
            exact ⟨rfl, HB.out.trans (hb12.mono HB.out.size)⟩
    case rest =>
      obtain ⟨rfl, hbc⟩ := hcut
      have HB := Lib.hid hbc
      clear hbc HX HY HOA HOB HK HKE J
      obtain ⟨w10, rfl⟩ : ∃ W, W = wc := ⟨_, rfl⟩
      have C2 := Lib.hid (drawProvesPrefix a0 len0 cap0 z0 w10 (hcode.out.below HB.out))
      go_wp2_with fail
      refine (C2.out).mono ?_
      rintro e w11 ⟨v, L, n, d, rfl, hL, hn0, hn1, ho, hb11⟩
      obtain ⟨yv, qv, rfl⟩ := ho.shape
      have HO := Lib.hid ho
      replace HB := Lib.hid (HB.out.trans (hb11.mono HB.out.size))
      clear ho hb11 C2
      have J := Lib.hid (implProvesPrefix _ _ L n d w11 (by omega) HO.out (HT.out.below HB.out))
      go_wp2_with fail
      refine (J.out).mono ?_
      rintro e w12 ⟨rfl, hb12⟩
      replace HO := Lib.hid (HO.out.later hb12)
      replace HB := Lib.hid (HB.out.trans (hb12.mono HB.out.size))
      clear hb12 J
      have J := Lib.hid (specProvesPrefix _ _ L n d w12 (by omega) HO.out)
      have tp : (provesP L n d == provesP L n d) = true := by simp
      go_wp2_with fail
      refine (J.out).mono ?_
      rintro e w13 ⟨rfl, hb13⟩
      replace HO := Lib.hid (HO.out.later hb13)
      replace HB := Lib.hid (HB.out.trans (hb13.mono HB.out.size))
      clear hb13 J
      have J := Lib.hid (implDigestOf _ _ L n w13 (by omega) HO.out (HT.out.below HB.out))
      go_wp2_with fail
      refine (J.out).mono ?_
      rintro e w14 ⟨rfl, hb14⟩
      replace HO := Lib.hid (HO.out.later hb14)
      replace HB := Lib.hid (HB.out.trans (hb14.mono HB.out.size))
      clear hb14 J tp
      have J := Lib.hid (specDigestOf _ _ L n w14 (by omega) HO.out)
      have td : (digO L n == digO L n) = true := by simp
      go_wp2_with fail
      refine (J.out).mono ?_
      rintro e w15 ⟨rfl, hb15⟩
      replace HO := Lib.hid (HO.out.later hb15)
      replace HB := Lib.hid (HB.out.trans (hb15.mono HB.out.size))
      clear hb15 J
      have J := Lib.hid (specIsLog _ _ L w15 (by omega) HO.out)
      cases hlog : decide (LOk L) with
      | false =>
        rw [hlog] at J
        clear hlog
        go_wp2_with fail
        refine (J.out).mono ?_
        rintro e w16 ⟨rfl, hb16⟩
        go_wp2_with fail
        go_ret
        exact ⟨rfl, HB.out.trans (hb16.mono HB.out.size)⟩
      | true =>
        rw [hlog] at J
        have hlg := of_decide_eq_true hlog
        by_cases hgt : n > (L.length : Int)
        · have t1 : decide (n > (L.length : Int)) = true := decide_eq_true hgt
          clear hlog hlg hgt
          go_wp2_with fail
          refine (J.out).mono ?_
          rintro e w16 ⟨rfl, hb16⟩
          go_wp2_with fail
          go_ret
          exact ⟨rfl, HB.out.trans (hb16.mono HB.out.size)⟩
        · have t1 : decide (n > (L.length : Int)) = false := decide_eq_false hgt
          have hself := proves_self hlg hn0 (by omega)
          clear hlog hlg hgt
          go_wp2_with fail
          refine (J.out).mono ?_
          rintro e w16 ⟨rfl, hb16⟩
          replace HO := Lib.hid (HO.out.later hb16)
          replace HB := Lib.hid (HB.out.trans (hb16.mono HB.out.size))
          clear hb16 J
          have J := Lib.hid (implDigestOf _ _ L n w16 (by omega) HO.out (HT.out.below HB.out))
          go_wp2_with fail
          refine (J.out).mono ?_
          rintro e w17 ⟨rfl, hb17⟩
          replace HO := Lib.hid (HO.out.later hb17)
          replace HB := Lib.hid (HB.out.trans (hb17.mono HB.out.size))
          clear hb17 J
          have J0 := implProvesPrefix _ _ L n (digO L n) w17 (by omega) HO.out (HT.out.below HB.out)
          rw [hself] at J0
          have J := Lib.hid J0
          clear J0 hself
          go_wp2_with fail
          refine (J.out).mono ?_
          rintro e w18 ⟨rfl, hb18⟩
          go_wp2_with fail
          go_ret
          exact ⟨rfl, HB.out.trans (hb18.mono HB.out.size)⟩
end Go.Proofs.YtbnepdecfnhgoaaDoor.fnDigests
