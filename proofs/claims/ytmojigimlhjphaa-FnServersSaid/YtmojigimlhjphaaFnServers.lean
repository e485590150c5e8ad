/-
  For every code: the sets that impl makes of the drawn lists are the specification's, they are read back from their format, and their sizes go together: the law returns true and changes nothing that was there. No condition.
-/
import Derived.Test.YtmojigimlhjphaaBig
import Derived.Test.YtmojigimlhjphaaS2Draw
import Derived.Test.YtmojigimlhjphaaS2Law
import Derived.Test.YtmojigimlhjphaaC2Impl
import Derived.Test.YtmojigimlhjphaaS2ParseImpl
namespace Go.Proofs.Ytmojigimlhjphaa.fnServers
open Go.ChangeShapes Go.WideShapes Go.ChangeAt Go.RowKit
open Go.ChangeMaps (open_string shut_string)
open kit
set_option linter.unusedVariables false
set_option linter.unusedSimpArgs false

set_option maxRecDepth 100000 in
set_option maxHeartbeats 8000000 in
theorem walk (a0 : Option Addr) (len0 cap0 : Nat) (z0 : List Int) (w : World) (w0 : IsRow .u8 w a0 len0 cap0 z0) :
    Calls Try.prog 3 #[.slice a0 len0 cap0] w fun e w' => e = .returned (.bool true) ∧ Below w.heap.size w w' := by
  have hl : len0 ≤ 9223372036854775807 := by
    rcases w0 with ⟨_, h, _⟩ | ⟨_, _, h1, h2, _⟩
    · omega
    · unfold maxLen at h2; omega
  have hcode := Lib.hid (code_of_row w0)
  clear w0
  by_cases hbig : 1048576 < len0
  · have CB := Lib.hid (big_yes a0 len0 cap0 w hbig hl)
    clear hbig
    go_enter Try.func3, Try.ntmps3
    go_wp2_with fail
    refine (CB.out).mono ?_
    rintro e w1 ⟨rfl, rfl⟩
    go_wp2_with fail
    go_ret
    exact ⟨rfl, Below.refl _ _⟩
  · have CB := Lib.hid (big_no a0 len0 cap0 w hbig)
    clear hbig
    go_enter Try.func3, Try.ntmps3
    go_wp2_with fail
    refine (CB.out).mono ?_
    rintro e w1 ⟨rfl, rfl⟩
    go_wp2_with fail
    refine (drawTwo a0 len0 cap0 z0 w hcode.out).mono ?_
    rintro e w1 ⟨va, vb, la, lb, rfl, hla, hlb, hoa, hob, hb⟩
    have hz1 : w.heap.size ≤ w1.heap.size := hb.size
    have HB := Lib.hid hb
    have HOa := Lib.hid hoa
    have HOb := Lib.hid hob
    have lx := unite_len la lb (by omega) (by omega)
    have ly := common_len la lb (by omega) (by omega)
    have lz := without_len la lb (by omega) (by omega)
    have HU := Lib.hid (fun h1 h2 => unite_size (a := la) (b := lb) h1 h2)
    have HC := Lib.hid (fun h1 => common_size (a := la) (b := lb) h1)
    have HR := Lib.hid (fun h1 h2 => unite_are (a := la) (b := lb) h1 h2)
    have HPS := Lib.hid (parse_fmt_sok la)
    have HPP := Lib.hid (fun h => parse_fmt (l := la) h)
    have lf : (fmtS la).length ≤ 1048576 := by
      unfold fmtS; split
      · split
        · simp
        · rw [digs_length]; omega
      · simp
    clear hb hoa hob hcode CB hl
    go_wp2_with fail
    refine (kit.implUniteServers _ va la _ vb lb w1 (by omega) HOa.out (by omega) HOb.out).mono ?_
    rintro e w2 ⟨vx, rfl, ho, hb⟩
    have hz2 : w.heap.size ≤ w2.heap.size := Nat.le_trans hz1 hb.size
    replace HB := Lib.hid (HB.out.trans (hb.mono hz1))
    replace HOa := Lib.hid (HOa.out.later hb)
    replace HOb := Lib.hid (HOb.out.later hb)
    clear hb
    have HOx := Lib.hid (ho.mono hz1)
    clear ho
    go_wp2_with fail
    refine (kit.implCommonServers _ va la _ vb lb w2 (by omega) HOa.out (by omega) HOb.out).mono ?_
    rintro e w3 ⟨vy, rfl, ho, hb⟩
    have hz3 : w.heap.size ≤ w3.heap.size := Nat.le_trans hz2 hb.size
    replace HB := Lib.hid (HB.out.trans (hb.mono hz2))
    replace HOa := Lib.hid (HOa.out.later hb)
    replace HOb := Lib.hid (HOb.out.later hb)
    replace HOx := Lib.hid (HOx.out.later hb)
    clear hb
    have HOy := Lib.hid (ho.mono hz2)
    clear ho
    go_wp2_with fail
    refine (kit.implWithoutServers _ va la _ vb lb w3 (by omega) HOa.out (by omega) HOb.out).mono ?_
    rintro e w4 ⟨vz, rfl, ho, hb⟩
    have hz4 : w.heap.size ≤ w4.heap.size := Nat.le_trans hz3 hb.size
    replace HB := Lib.hid (HB.out.trans (hb.mono hz3))
    replace HOa := Lib.hid (HOa.out.later hb)
    replace HOb := Lib.hid (HOb.out.later hb)
    replace HOx := Lib.hid (HOx.out.later hb)
    replace HOy := Lib.hid (HOy.out.later hb)
    clear hb
    have HOz := Lib.hid (ho.mono hz3)
    clear ho
    go_wp2_with fail
    refine (kit.specUniteServers _ va la _ vb lb w4 (by omega) HOa.out (by omega) HOb.out).mono ?_
    rintro e w5 ⟨vsx, rfl, ho, hb⟩
    have hz5 : w.heap.size ≤ w5.heap.size := Nat.le_trans hz4 hb.size
    replace HB := Lib.hid (HB.out.trans (hb.mono hz4))
    replace HOa := Lib.hid (HOa.out.later hb)
    replace HOb := Lib.hid (HOb.out.later hb)
    replace HOx := Lib.hid (HOx.out.later hb)
    replace HOy := Lib.hid (HOy.out.later hb)
    replace HOz := Lib.hid (HOz.out.later hb)
    clear hb
    have HOsx := Lib.hid (ho.mono hz4)
    clear ho
    go_wp2_with fail
    refine (kit.sameInts _ vx (unite la lb) _ vsx (unite la lb) w5 (by omega) HOx.out (by omega) HOsx.out).mono ?_
    rintro e w6 ⟨he, hb⟩
    rw [decide_eq_true rfl] at he
    subst he
    have hz6 : w.heap.size ≤ w6.heap.size := Nat.le_trans hz5 hb.size
    replace HB := Lib.hid (HB.out.trans (hb.mono hz5))
    replace HOa := Lib.hid (HOa.out.later hb)
    replace HOb := Lib.hid (HOb.out.later hb)
    replace HOx := Lib.hid (HOx.out.later hb)
    replace HOy := Lib.hid (HOy.out.later hb)
    replace HOz := Lib.hid (HOz.out.later hb)
    replace HOsx := Lib.hid (HOsx.out.later hb)
    clear hb
    go_wp2_with fail
    refine (kit.specCommonServers _ va la _ vb lb w6 (by omega) HOa.out (by omega) HOb.out).mono ?_
    rintro e w7 ⟨vsy, rfl, ho, hb⟩
    have hz7 : w.heap.size ≤ w7.heap.size := Nat.le_trans hz6 hb.size
    replace HB := Lib.hid (HB.out.trans (hb.mono hz6))
    replace HOa := Lib.hid (HOa.out.later hb)
    replace HOb := Lib.hid (HOb.out.later hb)
    replace HOx := Lib.hid (HOx.out.later hb)
    replace HOy := Lib.hid (HOy.out.later hb)
    replace HOz := Lib.hid (HOz.out.later hb)
    replace HOsx := Lib.hid (HOsx.out.later hb)
    clear hb
    have HOsy := Lib.hid (ho.mono hz6)
    clear ho
    go_wp2_with fail
    refine (kit.sameInts _ vy (common la lb) _ vsy (common la lb) w7 (by omega) HOy.out (by omega) HOsy.out).mono ?_
    rintro e w8 ⟨he, hb⟩
    rw [decide_eq_true rfl] at he
    subst he
    have hz8 : w.heap.size ≤ w8.heap.size := Nat.le_trans hz7 hb.size
    replace HB := Lib.hid (HB.out.trans (hb.mono hz7))
    replace HOa := Lib.hid (HOa.out.later hb)
    replace HOb := Lib.hid (HOb.out.later hb)
    replace HOx := Lib.hid (HOx.out.later hb)
    replace HOy := Lib.hid (HOy.out.later hb)
    replace HOz := Lib.hid (HOz.out.later hb)
    replace HOsx := Lib.hid (HOsx.out.later hb)
    replace HOsy := Lib.hid (HOsy.out.later hb)
    clear hb
    go_wp2_with fail
    refine (kit.specWithoutServers _ va la _ vb lb w8 (by omega) HOa.out (by omega) HOb.out).mono ?_
    rintro e w9 ⟨vsz, rfl, ho, hb⟩
    have hz9 : w.heap.size ≤ w9.heap.size := Nat.le_trans hz8 hb.size
    replace HB := Lib.hid (HB.out.trans (hb.mono hz8))
    replace HOa := Lib.hid (HOa.out.later hb)
    replace HOb := Lib.hid (HOb.out.later hb)
    replace HOx := Lib.hid (HOx.out.later hb)
    replace HOy := Lib.hid (HOy.out.later hb)
    replace HOz := Lib.hid (HOz.out.later hb)
    replace HOsx := Lib.hid (HOsx.out.later hb)
    replace HOsy := Lib.hid (HOsy.out.later hb)
    clear hb
    have HOsz := Lib.hid (ho.mono hz8)
    clear ho
    go_wp2_with fail
    refine (kit.sameInts _ vz (without la lb) _ vsz (without la lb) w9 (by omega) HOz.out (by omega) HOsz.out).mono ?_
    rintro e w10 ⟨he, hb⟩
    rw [decide_eq_true rfl] at he
    subst he
    have hz10 : w.heap.size ≤ w10.heap.size := Nat.le_trans hz9 hb.size
    replace HB := Lib.hid (HB.out.trans (hb.mono hz9))
    replace HOa := Lib.hid (HOa.out.later hb)
    replace HOb := Lib.hid (HOb.out.later hb)
    replace HOx := Lib.hid (HOx.out.later hb)
    replace HOy := Lib.hid (HOy.out.later hb)
    replace HOz := Lib.hid (HOz.out.later hb)
    replace HOsx := Lib.hid (HOsx.out.later hb)
    replace HOsy := Lib.hid (HOsy.out.later hb)
    replace HOsz := Lib.hid (HOsz.out.later hb)
    clear hb
    go_wp2_with fail
    refine (kit.implAreServers _ va la w10 (by omega) HOa.out).mono ?_
    rintro e w11 ⟨he, hb⟩
    subst he
    have hz11 : w.heap.size ≤ w11.heap.size := Nat.le_trans hz10 hb.size
    replace HB := Lib.hid (HB.out.trans (hb.mono hz10))
    replace HOa := Lib.hid (HOa.out.later hb)
    replace HOb := Lib.hid (HOb.out.later hb)
    replace HOx := Lib.hid (HOx.out.later hb)
    replace HOy := Lib.hid (HOy.out.later hb)
    replace HOz := Lib.hid (HOz.out.later hb)
    replace HOsx := Lib.hid (HOsx.out.later hb)
    replace HOsy := Lib.hid (HOsy.out.later hb)
    replace HOsz := Lib.hid (HOsz.out.later hb)
    clear hb
    go_wp2_with fail
    refine (kit.specAreServers _ va la w11 (by omega) HOa.out).mono ?_
    rintro e w12 ⟨he, hb⟩
    subst he
    have hz12 : w.heap.size ≤ w12.heap.size := Nat.le_trans hz11 hb.size
    replace HB := Lib.hid (HB.out.trans (hb.mono hz11))
    replace HOa := Lib.hid (HOa.out.later hb)
    replace HOb := Lib.hid (HOb.out.later hb)
    replace HOx := Lib.hid (HOx.out.later hb)
    replace HOy := Lib.hid (HOy.out.later hb)
    replace HOz := Lib.hid (HOz.out.later hb)
    replace HOsx := Lib.hid (HOsx.out.later hb)
    replace HOsy := Lib.hid (HOsy.out.later hb)
    replace HOsz := Lib.hid (HOsz.out.later hb)
    clear hb
    go_wp2_with fail
    refine (kit.implEqualServers _ va la _ vb lb w12 (by omega) HOa.out (by omega) HOb.out).mono ?_
    rintro e w13 ⟨he, hb⟩
    subst he
    have hz13 : w.heap.size ≤ w13.heap.size := Nat.le_trans hz12 hb.size
    replace HB := Lib.hid (HB.out.trans (hb.mono hz12))
    replace HOa := Lib.hid (HOa.out.later hb)
    replace HOb := Lib.hid (HOb.out.later hb)
    replace HOx := Lib.hid (HOx.out.later hb)
    replace HOy := Lib.hid (HOy.out.later hb)
    replace HOz := Lib.hid (HOz.out.later hb)
    replace HOsx := Lib.hid (HOsx.out.later hb)
    replace HOsy := Lib.hid (HOsy.out.later hb)
    replace HOsz := Lib.hid (HOsz.out.later hb)
    clear hb
    go_wp2_with fail
    refine (kit.specEqualServers _ va la _ vb lb w13 (by omega) HOa.out (by omega) HOb.out).mono ?_
    rintro e w14 ⟨he, hb⟩
    subst he
    have hz14 : w.heap.size ≤ w14.heap.size := Nat.le_trans hz13 hb.size
    replace HB := Lib.hid (HB.out.trans (hb.mono hz13))
    replace HOa := Lib.hid (HOa.out.later hb)
    replace HOb := Lib.hid (HOb.out.later hb)
    replace HOx := Lib.hid (HOx.out.later hb)
    replace HOy := Lib.hid (HOy.out.later hb)
    replace HOz := Lib.hid (HOz.out.later hb)
    replace HOsx := Lib.hid (HOsx.out.later hb)
    replace HOsy := Lib.hid (HOsy.out.later hb)
    replace HOsz := Lib.hid (HOsz.out.later hb)
    clear hb
    go_wp2_with fail
    refine (kit.implFormatServers _ va la w14 (by omega) HOa.out).mono ?_
    rintro e w15 ⟨he, hb⟩
    unfold kit.str at he
    generalize hS : (⟨(fmtS la).toArray⟩ : ByteArray) = S at he
    have HS := Lib.hid hS
    clear hS
    subst he
    have hz15 : w.heap.size ≤ w15.heap.size := Nat.le_trans hz14 hb.size
    replace HB := Lib.hid (HB.out.trans (hb.mono hz14))
    replace HOa := Lib.hid (HOa.out.later hb)
    replace HOb := Lib.hid (HOb.out.later hb)
    replace HOx := Lib.hid (HOx.out.later hb)
    replace HOy := Lib.hid (HOy.out.later hb)
    replace HOz := Lib.hid (HOz.out.later hb)
    replace HOsx := Lib.hid (HOsx.out.later hb)
    replace HOsy := Lib.hid (HOsy.out.later hb)
    replace HOsz := Lib.hid (HOsz.out.later hb)
    clear hb
    go_wp2_with fail
    refine (kit.implParseServers S w15 (by rw [← HS.out]; show (fmtS la).toArray.size ≤ _; simpa using lf)).mono ?_
    rintro e w16 ⟨vp, he, ho, hb⟩
    rw [← HS.out] at he ho
    change e = .returned (.tuple #[vp, .bool (parseSok (fmtS la))]) at he
    change OwnI _ _ _ (parseS (fmtS la)) at ho
    rw [HPS.out] at he
    subst he
    have hz16 : w.heap.size ≤ w16.heap.size := Nat.le_trans hz15 hb.size
    replace HB := Lib.hid (HB.out.trans (hb.mono hz15))
    replace HOa := Lib.hid (HOa.out.later hb)
    replace HOb := Lib.hid (HOb.out.later hb)
    replace HOx := Lib.hid (HOx.out.later hb)
    replace HOy := Lib.hid (HOy.out.later hb)
    replace HOz := Lib.hid (HOz.out.later hb)
    replace HOsx := Lib.hid (HOsx.out.later hb)
    replace HOsy := Lib.hid (HOsy.out.later hb)
    replace HOsz := Lib.hid (HOsz.out.later hb)
    clear hb
    have HOp := Lib.hid (ho.mono hz15)
    clear ho
    go_wp2_with fail
    refine (kit.specFormatServers _ va la w16 (by omega) HOa.out).mono ?_
    rintro e w17 ⟨he, hb⟩
    unfold kit.str at he
    rw [HS.out] at he
    subst he
    have hz17 : w.heap.size ≤ w17.heap.size := Nat.le_trans hz16 hb.size
    replace HB := Lib.hid (HB.out.trans (hb.mono hz16))
    replace HOa := Lib.hid (HOa.out.later hb)
    replace HOb := Lib.hid (HOb.out.later hb)
    replace HOx := Lib.hid (HOx.out.later hb)
    replace HOy := Lib.hid (HOy.out.later hb)
    replace HOz := Lib.hid (HOz.out.later hb)
    replace HOsx := Lib.hid (HOsx.out.later hb)
    replace HOsy := Lib.hid (HOsy.out.later hb)
    replace HOsz := Lib.hid (HOsz.out.later hb)
    replace HOp := Lib.hid (HOp.out.later hb)
    clear hb
    go_wp2_with fail
    refine (kit.specAreServers _ va la w17 (by omega) HOa.out).mono ?_
    rintro e w18 ⟨he, hb⟩
    subst he
    have hz18 : w.heap.size ≤ w18.heap.size := Nat.le_trans hz17 hb.size
    replace HB := Lib.hid (HB.out.trans (hb.mono hz17))
    replace HOa := Lib.hid (HOa.out.later hb)
    replace HOb := Lib.hid (HOb.out.later hb)
    replace HOx := Lib.hid (HOx.out.later hb)
    replace HOy := Lib.hid (HOy.out.later hb)
    replace HOz := Lib.hid (HOz.out.later hb)
    replace HOsx := Lib.hid (HOsx.out.later hb)
    replace HOsy := Lib.hid (HOsy.out.later hb)
    replace HOsz := Lib.hid (HOsz.out.later hb)
    replace HOp := Lib.hid (HOp.out.later hb)
    clear hb
    have lpp := parseS_len (fmtS la)
    generalize hFS : fmtS la = FS at *
    clear hFS
    cases hA : are la <;> replace hA := Lib.hid hA
    · go_wp2_with fail
      refine (kit.specAreServers _ va la w18 (by omega) HOa.out).mono ?_
      rintro e w19 ⟨he, hb⟩
      rw [hA.out] at he
      subst he
      have hz19 : w.heap.size ≤ w19.heap.size := Nat.le_trans hz18 hb.size
      replace HB := Lib.hid (HB.out.trans (hb.mono hz18))
      replace HOa := Lib.hid (HOa.out.later hb)
      replace HOb := Lib.hid (HOb.out.later hb)
      replace HOx := Lib.hid (HOx.out.later hb)
      replace HOy := Lib.hid (HOy.out.later hb)
      replace HOz := Lib.hid (HOz.out.later hb)
      replace HOsx := Lib.hid (HOsx.out.later hb)
      replace HOsy := Lib.hid (HOsy.out.later hb)
      replace HOsz := Lib.hid (HOsz.out.later hb)
      replace HOp := Lib.hid (HOp.out.later hb)
      clear hb
      go_wp2_with fail
      go_ret
      exact ⟨rfl, HB.out⟩
    · rw [HPP.out hA.out] at HOp
      go_wp2_with fail
      refine (kit.sameInts _ vp la _ va la w18 (by omega) HOp.out (by omega) HOa.out).mono ?_
      rintro e w19 ⟨he, hb⟩
      rw [decide_eq_true rfl] at he
      subst he
      have hz19 : w.heap.size ≤ w19.heap.size := Nat.le_trans hz18 hb.size
      replace HB := Lib.hid (HB.out.trans (hb.mono hz18))
      replace HOa := Lib.hid (HOa.out.later hb)
      replace HOb := Lib.hid (HOb.out.later hb)
      replace HOx := Lib.hid (HOx.out.later hb)
      replace HOy := Lib.hid (HOy.out.later hb)
      replace HOz := Lib.hid (HOz.out.later hb)
      replace HOsx := Lib.hid (HOsx.out.later hb)
      replace HOsy := Lib.hid (HOsy.out.later hb)
      replace HOsz := Lib.hid (HOsz.out.later hb)
      replace HOp := Lib.hid (HOp.out.later hb)
      clear hb
      go_wp2_with fail
      refine (kit.specAreServers _ va la w19 (by omega) HOa.out).mono ?_
      rintro e w20 ⟨he, hb⟩
      rw [hA.out] at he
      subst he
      have hz20 : w.heap.size ≤ w20.heap.size := Nat.le_trans hz19 hb.size
      replace HB := Lib.hid (HB.out.trans (hb.mono hz19))
      replace HOa := Lib.hid (HOa.out.later hb)
      replace HOb := Lib.hid (HOb.out.later hb)
      replace HOx := Lib.hid (HOx.out.later hb)
      replace HOy := Lib.hid (HOy.out.later hb)
      replace HOz := Lib.hid (HOz.out.later hb)
      replace HOsx := Lib.hid (HOsx.out.later hb)
      replace HOsy := Lib.hid (HOsy.out.later hb)
      replace HOsz := Lib.hid (HOsz.out.later hb)
      replace HOp := Lib.hid (HOp.out.later hb)
      clear hb
      go_wp2_with fail
      refine (kit.specAreServers _ vb lb w20 (by omega) HOb.out).mono ?_
      rintro e w21 ⟨he, hb⟩
      subst he
      have hz21 : w.heap.size ≤ w21.heap.size := Nat.le_trans hz20 hb.size
      replace HB := Lib.hid (HB.out.trans (hb.mono hz20))
      replace HOa := Lib.hid (HOa.out.later hb)
      replace HOb := Lib.hid (HOb.out.later hb)
      replace HOx := Lib.hid (HOx.out.later hb)
      replace HOy := Lib.hid (HOy.out.later hb)
      replace HOz := Lib.hid (HOz.out.later hb)
      replace HOsx := Lib.hid (HOsx.out.later hb)
      replace HOsy := Lib.hid (HOsy.out.later hb)
      replace HOsz := Lib.hid (HOsz.out.later hb)
      replace HOp := Lib.hid (HOp.out.later hb)
      clear hb
      cases hB : are lb <;> replace hB := Lib.hid hB
      · go_wp2_with fail
        go_ret
        exact ⟨rfl, HB.out⟩
      · have hu := HU.out hA.out hB.out
        have hc := HC.out hA.out
        have HRR := Lib.hid (HR.out hA.out hB.out)
        obtain ⟨ax, cx, rfl, _, _, _, _⟩ := HOx.out.form
        obtain ⟨ay, cy, rfl, _, _, _, _⟩ := HOy.out.form
        obtain ⟨az, cz, rfl, _, _, _, _⟩ := HOz.out.form
        obtain ⟨aa, ca, rfl, _, _, _, _⟩ := HOa.out.form
        obtain ⟨ab, cb, rfl, _, _, _, _⟩ := HOb.out.form
        have CX := Lib.hid (kit.implAreServers _ _ (unite la lb) w21 (by omega) HOx.out)
        rw [HRR.out] at CX
        have hw1 : IntKind.i64.wrap (((without la lb).length : Int) + (lb.length : Int)) = (unite la lb).length := by rw [IntWalk.i64_in _ (by omega)]; omega
        have hw2 : IntKind.i64.wrap (((common la lb).length : Int) + ((without la lb).length : Int)) = la.length := by rw [IntWalk.i64_in _ (by omega)]; omega
        clear HOx HOy HOz HOsx HOsy HOsz HOa HOb HOp hu hc HU HC HR HRR HPS HPP lf lpp
        generalize unite la lb = X at *
        generalize common la lb = Y at *
        generalize without la lb = Z at *
        go_wp2_with (go_at_call 20; refine (CX.out).mono ?_; rintro e wl ⟨rfl, hb⟩)
        go_ret
        exact ⟨rfl, HB.out.trans (hb.mono hz21)⟩

set_option maxRecDepth 100000 in
theorem lifted (os : Os) (started : os.Started) (H : Type) (enc : TypeId × Value → H) :
    ReturnsInHanded {} Try.checked os 3 .any (Rows.fnServersSpec.pre6 enc Try.prog Try.f3 Rows.fnServersRow.domain false) (Rows.fnServersSpec.post enc Try.prog Try.f3 false true false false) := by
  refine returnsInHanded_of_change (C := Try.checked) kit.own started (by kernel_rfl) Try.func3
    (ChangeSpec.witness6 (enc := enc) (C := Try.checked) false ⟨#[], #[.slice none 0 0], []⟩ 8 (by kernel_rfl) (by kernel_rfl) (by kernel_rfl) (by kernel_rfl)) ?_
  intro W base args ds gs before hval0 hW hcnd _
  have hval : ∀ (j : Nat) t v, Try.f3.params[j]? = some t → args[j]? = some v → Value.okWide Try.prog W .any base t v := hval0
  have hW' := hW
  obtain ⟨p, q, hA0, hV, rfl, hfz, hnd⟩ := hW
  have hA : DataW.TrodAll enc Try.prog W 0 (fun _ => true) true Try.f3.params.toList args.toList ds p := hA0
  rw [Try.params3] at hA hval
  obtain ⟨v0, vs0, d0, ds0, p0, q0, hargs, rfl, rfl, h0, r0⟩ := trodAll_cons hA
  obtain ⟨rfl, rfl, rfl⟩ := trodAll_nil r0
  obtain rfl : args = #[v0] := by cases args; simp_all
  obtain ⟨rfl, rfl⟩ := trodVars_none hV
  obtain ⟨a0, len0, cap0, rfl⟩ := okWide_slice Try.underlying22 (hval 0 22 v0 rfl rfl)
  have k0 := h0
  have lt0 : ∀ x ∈ p0, x.block < W.heap.size := by obtain ⟨m, hm⟩ := k0; exact DataW.trod_lt m _ _ _ hm
  obtain ⟨z0, w0⟩ : ∃ zs, kit.IsRow .u8 W a0 len0 cap0 zs := by
    obtain ⟨fuel, hf⟩ := h0
    rcases open_ints Try.underlying22 Try.underlying5 (by kernel_rfl) hf with ⟨hcs, _⟩ | ⟨x, l, c, zs, hcs, _, hl, hm, hz, _, hcell, hwz⟩
    · simp [Value.cells] at hcs
      obtain ⟨rfl, rfl, rfl⟩ := hcs
      exact ⟨[], .inl ⟨rfl, rfl, rfl, rfl⟩⟩
    · simp [Value.cells] at hcs
      obtain ⟨rfl, rfl, rfl⟩ := hcs
      exact ⟨zs, .inr ⟨_, rfl, hl, hm, by simpa using hz, hcell, hwz⟩⟩
  clear hA0 hval0
  refine (walk a0 len0 cap0 z0 W w0).mono fun e W' ⟨he, bel⟩ => ?_
  subst he
  exact ⟨_, rfl, _, _, _, [], _, [], hW', trodAll_mk1 (shut_bool Try.underlying4 _), (trodAll_cons_mk (Below.trod kit.laidOut (by kernel_rfl) (of_decide_eq_true (by kernel_rfl)) k0 bel lt0) trodAll_mk0), rfl, bel.frame _, fun h => by cases h⟩

theorem proved : Rows.FnServersSaid :=
  OpenClaim.holds_of_wide 3 Try.f3 rfl rfl rfl rfl rfl rfl rfl ⟨rfl, rfl, rfl, rfl, rfl⟩ rfl rfl rfl rfl rfl (by kernel_rfl) Try.func3 (by kernel_rfl)
    (of_decide_eq_true (by kernel_rfl)) (by unfold Func.isWrapper; first | (rw [if_pos (by decide +kernel)]; kernel_rfl) | (rw [if_neg (by decide +kernel)]; exact ⟨rfl, rfl⟩))
    (fun os started H enc _ => lifted os started H enc)
end Go.Proofs.Ytmojigimlhjphaa.fnServers
