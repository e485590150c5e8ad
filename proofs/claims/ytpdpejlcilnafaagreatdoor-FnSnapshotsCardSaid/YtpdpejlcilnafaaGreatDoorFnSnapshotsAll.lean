/-
  The law of snapshots: the walk, the law (merged text).
-/
import Derived.Test.YtpdpejlcilnafaaGreatDoorBig
import Derived.Test.YtpdpejlcilnafaaGreatDoorSnpE
import Derived.Test.YtpdpejlcilnafaaGreatDoorSnpF
import Derived.Deep.DeepCutAuto
import Derived.Deep.RegionWith
import Derived.Test.YtpdpejlcilnafaaGreatDoorCards
import Derived.Test.YtpdpejlcilnafaaGreatDoorTie
namespace Go.Proofs.YtpdpejlcilnafaaGreatDoor.fnSnapshots
open Go.ChangeShapes Go.WideShapes Go.ChangeAt Go.RowKit
open Go.ChangeMaps (open_string shut_string)
open kit
set_option linter.unusedVariables false
set_option linter.unusedSimpArgs false

set_option maxRecDepth 100000 in
theorem lawsAt (a : Option Addr) (len cap : Nat) (zs : List Int) (w : World) (h : IsRow .u8 w a len cap zs) :
    Calls Tryz.prog 14 #[.slice a len cap, .int .i64 0] w fun e w' => ∃ y : Nat, e = .returned (.int .i64 (y : Int)) ∧ y ≤ 255 ∧ w = w' := by
  by_cases h0 : 0 < len
  · rcases h with ⟨_, h1, _⟩ | ⟨x, rfl, h1, h2, h3, h4, h5⟩
    · omega
    · have hc := h4 0 (by omega)
      have hz := h5 (zs.getD 0 0) (by simp [List.getD, show 0 < zs.length by omega])
      generalize zs.getD 0 0 = z at *
      simp [Lit.wf, IntKind.wrap, IntKind.bits, IntKind.signed, IntKind.min, IntKind.max] at hz
      have hx0 : x.add 0 = x := by unfold Addr.add; split <;> simp_all
      rw [hx0] at hc
      have hz0 : 0 ≤ z ∧ z ≤ 255 := by omega
      obtain ⟨y, rfl⟩ := Int.eq_ofNat_of_zero_le hz0.1
      have hw : IntKind.i64.wrap (y : Int) = (y : Int) := IntWalk.i64_in _ (by omega)
      have k5 : (0 : Int) < (len : Int) := by omega
      clear h1 h2 h3 h4 h5 hz
      go_enter Tryz.func14, Tryz.ntmps14
      go_wp2_with fail
      go_ret
      exact ⟨y, rfl, by omega, rfl⟩
  · have h1 : len = 0 := by omega
    subst h1
    clear h h0
    go_enter Tryz.func14, Tryz.ntmps14
    go_wp2_with fail
    go_ret
    exact ⟨0, rfl, by omega, rfl⟩
theorem objV_own {N : Nat} {w : World} {v : Value} {L : List Int} {M : List Sess} (h : ObjV N w v L) (hm : MOk L M) : OwnI N w v L := h.elim id (fun h => absurd hm.1 h.1)
theorem fmtN_no {x y : Int} {L1 : List Int} {L2 : List Sess} (h : ¬ NOk x y L1 L2) : fmtN x y L1 L2 = [] := if_neg h
theorem fmtN_ne {x y : Int} {L1 : List Int} {L2 : List Sess} (h : NOk x y L1 L2) : (fmtN x y L1 L2 != []) = true := by
  unfold fmtN
  rw [if_pos h]
  simp
set_option maxRecDepth 100000 in
set_option maxHeartbeats 16000000 in
theorem walk (a0 : Option Addr) (len0 cap0 : Nat) (z0 : List Int) (w : World) (w0 : IsRow .u8 w a0 len0 cap0 z0) (hT : Tab w) (hM : MS w) :
    Calls Tryz.prog 3 #[.slice a0 len0 cap0] w fun e w' => e = .returned (.bool true) ∧ Below w.heap.size w w' := by
  have hl : len0 ≤ 9223372036854775807 := by
    rcases w0 with ⟨_, h, _⟩ | ⟨_, _, h1, h2, _⟩
    · omega
    · unfold maxLen at h2; omega
  have hcode := Lib.hid (code_of_row w0)
  have HT := Lib.hid hT
  have HM := Lib.hid hM
  clear w0 hT hM
  by_cases hbig : 1048576 < len0
  · have CB := Lib.hid (big_yes a0 len0 cap0 w hbig hl)
    clear hbig
    go_enter Tryz.func3, Tryz.ntmps3
    go_wp2_with fail
    refine (CB.out).mono ?_
    rintro e w1 ⟨rfl, rfl⟩
    go_wp2_with fail
    go_ret
    exact ⟨rfl, Below.refl _ _⟩
  have CB := Lib.hid (big_no a0 len0 cap0 w hbig)
  clear hbig
  go_enter Tryz.func3, Tryz.ntmps3
  go_wp2_with fail
  refine (CB.out).mono ?_
  rintro e w1 ⟨rfl, rfl⟩
  have HB := Lib.hid (Below.refl w.heap.size w)
  clear CB
  have J := Lib.hid (drawTakeSnapshot a0 len0 cap0 z0 w hcode.out)
  go_wp2_with fail
  refine (J.out).mono ?_
  rintro e w2 ⟨v, L, n, rfl, hL, hn0, hn1, ho, hb⟩
  obtain ⟨yv, qv, rfl⟩ := ho.shape
  have HL := Lib.hid ho
  clear ho
  replace HB := Lib.hid (HB.out.trans (hb.mono HB.out.size))
  clear hb J
  have J := Lib.hid (implTakeSnapshot _ _ L n w2 (by omega) HL.out (HT.out.below HB.out))
  go_wp2_with fail
  refine (J.out).mono ?_
  rintro e w3 ⟨u1, u2, rfl, ho1, ho2, hb⟩
  obtain ⟨y1, q1, rfl⟩ := ho1.shape
  obtain ⟨y2, q2, rfl⟩ := ho2.shape
  have H1 := Lib.hid ho1
  have H2 := Lib.hid ho2
  clear ho1 ho2
  replace HL := Lib.hid (HL.out.later hb)
  replace HB := Lib.hid (HB.out.trans (hb.mono HB.out.size))
  clear hb J
  have hO := tkO_len L n
  have hS := tkS_len L n
  go_wp2_with fail
  obtain ⟨w4, hnw⟩ : ∃ W, W = w3.alloc (.cells #[.int .i64 (tkX L n), .int .i64 (tkY L n), .slice y1 (tkO L n).length q1, .slice y2 (tkS L n).length q2] 32) := ⟨_, rfl⟩
  rw [← hnw]
  have hbx := BoxC.new w3 32 #[.int .i64 (tkX L n), .int .i64 (tkY L n), .slice y1 (tkO L n).length q1, .slice y2 (tkS L n).length q2]
  rw [← hnw] at hbx
  have hb : Below w3.heap.size w3 w4 := by rw [hnw]; exact (Below.refl _ _).alloc (Nat.le_refl _) _
  obtain ⟨p1, hpp⟩ : ∃ p, p = w3.heap.size := ⟨_, rfl⟩
  rw [← hpp]
  rw [← hpp] at hbx
  have HX := Lib.hid hbx
  clear hnw hpp hbx
  replace HL := Lib.hid (HL.out.later hb)
  replace H1 := Lib.hid (H1.out.later hb)
  replace H2 := Lib.hid (H2.out.later hb)
  replace HB := Lib.hid (HB.out.trans (hb.mono HB.out.size))
  clear hb 
  have J := Lib.hid (specTakeSnapshot _ _ L n w4 (by omega) HL.out)
  refine (J.out).mono ?_
  rintro e w5 ⟨u3, u4, rfl, ho1, ho2, hb⟩
  obtain ⟨y3, q3, rfl⟩ := ho1.shape
  obtain ⟨y4, q4, rfl⟩ := ho2.shape
  have H3 := Lib.hid ho1
  have H4 := Lib.hid ho2
  clear ho1 ho2
  replace H1 := Lib.hid (H1.out.later hb)
  replace H2 := Lib.hid (H2.out.later hb)
  replace HX := Lib.hid (HX.out.later hb)
  replace HB := Lib.hid (HB.out.trans (hb.mono HB.out.size))
  clear hb J
  clear HL
  generalize tkX L n = tx at *
  generalize tkY L n = ty at *
  generalize tkO L n = tO at *
  generalize tkS L n = tS at *
  generalize tkB L n = tb at *
  have tr : (tb != tb) = false := by simp
  go_upto_region 6 with (fail)
  obtain ⟨w6, hnw⟩ : ∃ W, W = w5.alloc (.cells #[.int .i64 tx, .int .i64 ty, .slice y3 tO.length q3, .slice y4 tS.length q4] 32) := ⟨_, rfl⟩
  rw [← hnw]
  have hbx := BoxC.new w5 32 #[.int .i64 tx, .int .i64 ty, .slice y3 tO.length q3, .slice y4 tS.length q4]
  rw [← hnw] at hbx
  have hb : Below w5.heap.size w5 w6 := by rw [hnw]; exact (Below.refl _ _).alloc (Nat.le_refl _) _
  obtain ⟨p2, hpp⟩ : ∃ p, p = w5.heap.size := ⟨_, rfl⟩
  rw [← hpp]
  rw [← hpp] at hbx
  have HY := Lib.hid hbx
  clear hnw hpp hbx
  replace H1 := Lib.hid (H1.out.later hb)
  replace H2 := Lib.hid (H2.out.later hb)
  replace H3 := Lib.hid (H3.out.later hb)
  replace H4 := Lib.hid (H4.out.later hb)
  replace HX := Lib.hid (HX.out.later hb)
  replace HB := Lib.hid (HB.out.trans (hb.mono HB.out.size))
  clear hb 
  have r0 := HX.out.c 0 rfl
  have r1 := HX.out.c 1 rfl
  have r2 := HX.out.c 2 rfl
  have r3 := HX.out.c 3 rfl
  have s0 := HY.out.c 0 rfl
  have s1 := HY.out.c 1 rfl
  have s2 := HY.out.c 2 rfl
  have s3 := HY.out.c 3 rfl
  have J0 := implEqualSnapshots tx ty _ _ _ _ tO tS tx ty _ _ _ _ tO tS w6 hO hS H1.out H2.out hO hS H3.out H4.out
  rw [decide_eq_true ⟨rfl, rfl, rfl, rfl⟩] at J0
  have J := Lib.hid J0
  clear J0
  go_wp2_with fail
  refine (J.out).mono ?_
  rintro e w7 ⟨rfl, hb⟩
  replace HB := Lib.hid (HB.out.trans (hb.mono HB.out.size))
  clear hb J
  clear HX HY H1 H2 H3 H4 tr r0 s0 r1 s1 r2 s2 r3 s3
  have J := Lib.hid (drawSnapshotText a0 len0 cap0 z0 w7 (hcode.out.below HB.out))
  go_wp2_with fail
  refine (J.out).mono ?_
  rintro e w8 ⟨x, y, u5, u6, A, M, rfl, hA, hM2, ho1, ho2, hb⟩
  obtain ⟨y5, q5, rfl⟩ := ho1.shape
  obtain ⟨y6, q6, rfl⟩ := ho2.shape
  have H1 := Lib.hid ho1
  have H2 := Lib.hid ho2
  clear ho1 ho2
  replace HB := Lib.hid (HB.out.trans (hb.mono HB.out.size))
  clear hb J
  go_upto_region 9 with (fail)
  obtain ⟨w9, hnw⟩ : ∃ W, W = w8.alloc (.cells #[.int .i64 x, .int .i64 y, .slice y5 A.length q5, .slice y6 M.length q6] 32) := ⟨_, rfl⟩
  rw [← hnw]
  have hbx := BoxC.new w8 32 #[.int .i64 x, .int .i64 y, .slice y5 A.length q5, .slice y6 M.length q6]
  rw [← hnw] at hbx
  have hb : Below w8.heap.size w8 w9 := by rw [hnw]; exact (Below.refl _ _).alloc (Nat.le_refl _) _
  obtain ⟨p3, hpp⟩ : ∃ p, p = w8.heap.size := ⟨_, rfl⟩
  rw [← hpp]
  rw [← hpp] at hbx
  have HX := Lib.hid hbx
  clear hnw hpp hbx
  replace H1 := Lib.hid (H1.out.later hb)
  replace H2 := Lib.hid (H2.out.later hb)
  replace HB := Lib.hid (HB.out.trans (hb.mono HB.out.size))
  clear hb 
  have r0 := HX.out.c 0 rfl
  have r1 := HX.out.c 1 rfl
  have r2 := HX.out.c 2 rfl
  have r3 := HX.out.c 3 rfl
  have hTl := fmtN_short x y A M
  obtain ⟨T, hTT⟩ : ∃ T, T = fmtN x y A M := ⟨_, rfl⟩
  have J0 := implSnapshotTextV x y _ _ _ A M w9 hA hM2 H1.out.src H2.out (HT.out.below HB.out)
  rw [← hTT] at J0 hTl
  obtain ⟨S, hSS⟩ : ∃ S : ByteArray, S = ⟨T.toArray⟩ := ⟨_, rfl⟩
  have hST : S.data.toList = T := by rw [hSS]
  have hSl : S.size ≤ 2000 := by rw [hSS]; show T.toArray.size ≤ 2000; simpa using hTl
  rw [← hSS] at J0
  have J := Lib.hid J0
  have HTT := Lib.hid hTT
  have HSS := Lib.hid hSS
  have HST := Lib.hid hST
  clear J0 hTT hSS hST
  go_wp2_with fail
  refine (J.out).mono ?_
  rintro e w10 ⟨rfl, hb⟩
  clear r0 r1 r2 r3
  replace H1 := Lib.hid (H1.out.later hb)
  replace H2 := Lib.hid (H2.out.later hb)
  replace HX := Lib.hid (HX.out.later hb)
  replace HB := Lib.hid (HB.out.trans (hb.mono HB.out.size))
  clear hb J
  have J0 := implParseSnapshot S w10 (by omega) (HT.out.below HB.out) (HM.out.below HB.out).1
  rw [HST.out] at J0
  have hO1 := parNO_len T
  have hS1 := parNX_len T
  have J := Lib.hid J0
  clear J0
  go_wp2_with fail
  refine (J.out).mono ?_
  rintro e w11 ⟨u7, u8, rfl, ho1, ho2, hb⟩
  obtain ⟨y7, q7, rfl⟩ := ho1.shape
  obtain ⟨y8, q8, rfl⟩ := ho2.shape
  have H3 := Lib.hid ho1
  have H4 := Lib.hid ho2
  clear ho1 ho2
  replace H1 := Lib.hid (H1.out.later hb)
  replace H2 := Lib.hid (H2.out.later hb)
  replace HX := Lib.hid (HX.out.later hb)
  replace HB := Lib.hid (HB.out.trans (hb.mono HB.out.size))
  clear hb J
  go_upto_region 11 with (fail)
  obtain ⟨w12, hnw⟩ : ∃ W, W = w11.alloc (.cells #[.int .i64 (parNx T), .int .i64 (parNy T), .slice y7 (parNO T).length q7, .slice y8 (parNX T).length q8] 32) := ⟨_, rfl⟩
  rw [← hnw]
  have hbx := BoxC.new w11 32 #[.int .i64 (parNx T), .int .i64 (parNy T), .slice y7 (parNO T).length q7, .slice y8 (parNX T).length q8]
  rw [← hnw] at hbx
  have hb : Below w11.heap.size w11 w12 := by rw [hnw]; exact (Below.refl _ _).alloc (Nat.le_refl _) _
  obtain ⟨p4, hpp⟩ : ∃ p, p = w11.heap.size := ⟨_, rfl⟩
  rw [← hpp]
  rw [← hpp] at hbx
  have HY := Lib.hid hbx
  clear hnw hpp hbx
  replace H1 := Lib.hid (H1.out.later hb)
  replace H2 := Lib.hid (H2.out.later hb)
  replace H3 := Lib.hid (H3.out.later hb)
  replace H4 := Lib.hid (H4.out.later hb)
  replace HX := Lib.hid (HX.out.later hb)
  replace HB := Lib.hid (HB.out.trans (hb.mono HB.out.size))
  clear hb 
  have r0 := HX.out.c 0 rfl
  have r1 := HX.out.c 1 rfl
  have r2 := HX.out.c 2 rfl
  have r3 := HX.out.c 3 rfl
  have s0 := HY.out.c 0 rfl
  have s1 := HY.out.c 1 rfl
  have s2 := HY.out.c 2 rfl
  have s3 := HY.out.c 3 rfl
  have J0 := specSnapshotTextV x y _ _ _ A M w12 hA hM2 H1.out.src H2.out
  rw [← HTT.out, ← HSS.out] at J0
  have J := Lib.hid J0
  clear J0
  have t1 : (S.toList != S.toList) = false := by simp
  by_cases hok : NOk x y A M
  · obtain ⟨b1, b2, b3, b4, b5⟩ := snap_back hok
    rw [← HTT.out] at b1 b2 b3 b4 b5
    have t2 : (S.toList != []) = true := by rw [ByteArray.toList_eq, HST.out, HTT.out]; exact fmtN_ne hok
    have t3 : S.toList.isEmpty = false := by rw [isE_nil] at t2; simpa using t2
    rw [b2] at s0; rw [b3] at s1; rw [b4] at s2; rw [b5] at s3
    have h3 := H3.out
    have h4 := H4.out
    rw [b4] at h3
    rw [b5] at h4
    rw [b1]
    have J2 := fun W (hw : Below w12.heap.size w12 W) => implEqualSnapshots x y _ _ _ _ A M x y _ _ _ _ A M W hA hM2 ((objV_own H1.out hok.2.2).later hw) (H2.out.later hw) hA hM2 (h3.later hw) (h4.later hw)
    rw [decide_eq_true ⟨rfl, rfl, rfl, rfl⟩] at J2
    have J2 := Lib.hid J2
    clear b1 b2 b3 b4 b5 h3 h4 hok
    have R0 := Lib.hid (fun W (hw : Below w12.heap.size w12 W) => (HX.out.later hw).c 0 rfl)
    have HXL := Lib.hid (fun W (hw : Below w12.heap.size w12 W) => HX.out.later hw)
    have HYS := Lib.hid (show w12.cell? ⟨p4, 0, none⟩ = some (.int .i64 x) ∧ w12.cell? ⟨p4, 1, none⟩ = some (.int .i64 y) ∧ w12.cell? ⟨p4, 2, none⟩ = some (.slice y7 A.length q7) ∧ w12.cell? ⟨p4, 3, none⟩ = some (.slice y8 M.length q8) from ⟨s0, s1, s2, s3⟩)
    have HYL := Lib.hid HY.out.lt
    clear R0
    go_wp2_with (go_at_call 13; with_reducible refine (J.out).mono ?_; rintro e w13 ⟨rfl, hb⟩; have e0 := (HXL.out _ hb).c 0 rfl; have e1 := (HXL.out _ hb).c 1 rfl; have e2 := (HXL.out _ hb).c 2 rfl; have e3 := (HXL.out _ hb).c 3 rfl; have g0 := (hb.cell (p := ⟨p4, 0, none⟩) HYL.out).trans HYS.out.1; have g1 := (hb.cell (p := ⟨p4, 1, none⟩) HYL.out).trans HYS.out.2.1; have g2 := (hb.cell (p := ⟨p4, 2, none⟩) HYL.out).trans HYS.out.2.2.1; have g3 := (hb.cell (p := ⟨p4, 3, none⟩) HYL.out).trans HYS.out.2.2.2)
    have J3 := Lib.hid (J2.out _ hb)
    refine (J3.out).mono ?_
    rintro e w14 ⟨rfl, hb2⟩
    replace HB := Lib.hid ((HB.out.trans (hb.mono HB.out.size)).trans (hb2.mono (Nat.le_trans HB.out.size hb.size)))
    clear hb hb2 J J2 J3 HX HY HXL HYL HYS H1 H2 H3 H4 t1 t2 t3 e0 e1 e2 e3 g0 g1 g2 g3 r0 r1 r2 r3 s0 s1 s2 s3 HTT
    have J := Lib.hid (lawsAt a0 len0 cap0 z0 w14 (hcode.out.below HB.out).row)
    go_wp2_with fail
    refine (J.out).mono ?_
    rintro e w15 ⟨c, rfl, hc, rfl⟩
    obtain ⟨z, hz⟩ : ∃ z : Nat, z = 2 + c % 7 := ⟨_, rfl⟩
    have hz2 : 2 ≤ z ∧ z ≤ 8 := by omega
    have hze : (2 + (c : Int) % 7) = (z : Int) := by omega
    have HZE := Lib.hid hze
    have J := Lib.hid (implEncodeChunks S (z : Int) w14 (by omega) (HT.out.below HB.out))
    clear hz hze
    go_wp2_with fail
    rw [HZE.out]
    refine (J.out).mono ?_
    rintro e w15 ⟨uc, rfl, ho, hb⟩
    have HEJ := Lib.hid (fun h => enc_join (s := S.data.toList) (size := z) (by omega) h)
    have HFS := Lib.hid (fun i hi => fill_step (s := S.data.toList) (size := z) (i := i) (by omega) hi)
    have HSM := Lib.hid (smallN_enc (s := S.data.toList) (size := z) (m := 100) (by omega) (by omega))
    obtain ⟨yc, qc, rfl, _, _, atc, _⟩ := ho.form
    have HC := Lib.hid atc
    clear ho atc
    replace HB := Lib.hid (HB.out.trans (hb.mono HB.out.size))
    clear hb J
    have hST := HST.out
    generalize hCC : encCh S.data.toList (z : Int) = C at *
    rw [hST] at HEJ
    have hC40 : C.length ≤ 40 := HSM.out.1
    clear hCC hST HZE
    have hbe : Below w15.heap.size w15 (w15.alloc (.cells #[] 9)) := (Below.refl _ _).alloc (Nat.le_refl _) _
    have HP0 := Lib.hid (show OwnW w15.heap.size (w15.alloc (.cells #[] 9)) (.slice (some ⟨w15.heap.size, 0, none⟩) 0 0) [] from World.ownsRow_lit w15 #[] 0 (Nat.le_refl _) (Nat.zero_le _) rfl)
    have HCe := Lib.hid (HC.out.later hbe)
    have HBe := Lib.hid (HB.out.trans (hbe.mono HB.out.size))
    have hw1 : IntKind.i64.wrap ((C.length : Int) - 1) = (C.length : Int) - 1 := IntWalk.i64_in _ (by omega)
    go_wp2_with fail
    clear hw1
    go_loopw [15, 16, 17, 18] (fun v i x y wr => ∃ k : Nat, k ≤ C.length ∧ i = .int .i64 ((k : Int) - 1) ∧ OwnW w15.heap.size wr v (fillW C k) ∧ Hid (Below w15.heap.size w15 wr)) (fun _ i _ _ _ => (intOf i + 1).toNat)
    case atStart => exact ⟨C.length, Nat.le_refl _, rfl, by rw [fillW_end]; exact HP0.out, Lib.hid hbe⟩
    case round =>
      obtain ⟨k, hk, rfl, ho, HQ⟩ := hrel
      have HO := Lib.hid ho
      clear ho
      cases k with
      | succ j =>
        obtain ⟨fs1, fs2, fs3⟩ := HFS.out j (by omega)
        have hsm := smallN_fill HSM.out (j + 1) (by omega)
        have hsj := HSM.out.2 j
        obtain ⟨xa, rfl, hxl, ca⟩ := (HC.out.later HQ.out) j (by omega)
        have e1 : (((j + 1 : Nat) : Int) - 1) = (j : Int) := by omega
        rw [e1]
        have J0 := implReceiveChunkM _ _ (fillW C (j + 1)) (C.getD j .empty) wr (by have := hsm.1; omega) (hsm.bound (by omega)) HO.out (by omega) (HT.out.below (HB.out.trans (HQ.out.mono HB.out.size))) (HM.out.below (HB.out.trans (HQ.out.mono HB.out.size)))
        rw [fs1, fs2] at J0
        have j2 := fun W (hw : Below wr.heap.size wr W) => implMissingChunk _ _ (fillW C (j + 1)) (C.length : Int) W (by have := hsm.1; omega) (hsm.bound (by omega)) (HO.out.later hw)
        rw [fs3] at j2
        have J := Lib.hid J0
        have J2 := Lib.hid j2
        obtain ⟨yo, qo, hvo⟩ := HO.out.shape
        subst hvo
        generalize C.getD j .empty = ch at *
        have k3 : (0 : Int) ≤ (j : Int) := by omega
        have k5 : (j : Int) < (C.length : Int) := by omega
        have tg : decide ((j : Int) ≥ 0) = true := decide_eq_true k3
        have hw1 : IntKind.i64.wrap ((j : Int) - 1) = (j : Int) - 1 := IntWalk.i64_in _ (by omega)
        clear fs1 fs2 fs3 J0 j2 e1
        go_wp2_with (first | (go_at_call 16; with_reducible refine (J.out).mono ?_; rintro e w16 ⟨ux, rfl, hx, hb⟩; obtain ⟨yx, qx, rfl⟩ := hx.shape) | (go_at_call 17; with_reducible refine (J2.out _ hb).mono ?_; rintro e w17 ⟨rfl, hb2⟩))
        have HZ := Lib.hid (hb.trans (hb2.mono hb.size))
        have HX := Lib.hid ((OwnW.mono hx HQ.out.size).later hb2)
        clear hb hb2 hx J J2
        go_roundw
        case rel => exact ⟨j, by omega, rfl, HX.out, Lib.hid (HQ.out.trans (HZ.out.mono HQ.out.size))⟩
        case measure => first | (simp [intOf]; done) | (simp [intOf]; omega)
      | zero =>
        rw [fillW_zero] at HO
        have e1 : (((0 : Nat) : Int) - 1) = -1 := by omega
        rw [e1]
        obtain ⟨yo, qo, hvo⟩ := HO.out.shape
        subst hvo
        have HBz := Lib.hid (HB.out.trans (HQ.out.mono HB.out.size))
        have J0 := implJoinChunks _ _ C (C.length : Int) wr (by omega) (HSM.out.bound (by omega)) HO.out (HT.out.below HBz.out) (HM.out.below HBz.out).1
        clear e1
        by_cases h0 : C.length = 0
        · have hC0 : C = [] := List.eq_nil_of_length_eq_zero h0
          subst hC0
          have hjn : joinOk [] ((([] : List ByteArray).length : Nat) : Int) = false := join_none
          rw [hjn] at J0
          generalize joinS [] ((([] : List ByteArray).length : Nat) : Int) = js at *
          have J := Lib.hid J0
          clear J0 h0 hjn
          go_wp2_with (go_at_call 18; refine (J.out).mono ?_; rintro e w16 ⟨rfl, hb⟩)
          go_ret
          exact ⟨rfl, HBz.out.trans (hb.mono HBz.out.size)⟩
        · obtain ⟨e1, e2, e3⟩ := HEJ.out (by omega)
          rw [e1, e2, ← HSS.out] at J0
          have j2 := fun W (hw : Below wr.heap.size wr W) => implMissingChunk _ _ C (C.length : Int) W (by omega) (HSM.out.bound (by omega)) (HO.out.later hw)
          rw [e3] at j2
          have J := Lib.hid J0
          have J2 := Lib.hid j2
          have t1 : (S.toList == S.toList) = true := by simp
          have t2 : ((C.length : Int) == 0) = false := by rw [beq_eq_false_iff_ne]; omega
          have t3 : (C.length == 0) = false := by rw [beq_eq_false_iff_ne]; exact h0
          clear J0 j2 e1 e2 e3 h0
          go_wp2_with (first | (go_at_call 18; with_reducible refine (J.out).mono ?_; rintro e w16 ⟨rfl, hb⟩) | (go_at_call 17; with_reducible refine (J2.out _ hb).mono ?_; rintro e w17 ⟨rfl, hb2⟩))
          go_ret
          exact ⟨rfl, (HBz.out.trans (hb.mono HBz.out.size)).trans (hb2.mono (Nat.le_trans HBz.out.size hb.size))⟩
  · have hT0 : T = [] := by rw [HTT.out]; exact fmtN_no hok
    have b1 : parNok T = false := by rw [hT0]; exact snap_none
    have t2 : (S.toList != []) = false := by rw [ByteArray.toList_eq, HST.out, hT0]; rfl
    have t3 : S.toList.isEmpty = true := by rw [isE_nil] at t2; simpa using t2
    rw [b1]
    clear b1 hT0 hok
    go_wp2_with (go_at_call 13; with_reducible refine (J.out).mono ?_; rintro e w13 ⟨rfl, hb⟩)
    replace HB := Lib.hid (HB.out.trans (hb.mono HB.out.size))
    obtain ⟨w14, rfl⟩ : ∃ W, W = w13 := ⟨_, rfl⟩
    clear hb J HX HY H1 H2 H3 H4 t1 t2 t3 r0 r1 r2 r3 s0 s1 s2 s3 HTT
    have J := Lib.hid (lawsAt a0 len0 cap0 z0 w14 (hcode.out.below HB.out).row)
    go_wp2_with fail
    refine (J.out).mono ?_
    rintro e w15 ⟨c, rfl, hc, rfl⟩
    obtain ⟨z, hz⟩ : ∃ z : Nat, z = 2 + c % 7 := ⟨_, rfl⟩
    have hz2 : 2 ≤ z ∧ z ≤ 8 := by omega
    have hze : (2 + (c : Int) % 7) = (z : Int) := by omega
    have HZE := Lib.hid hze
    have J := Lib.hid (implEncodeChunks S (z : Int) w14 (by omega) (HT.out.below HB.out))
    clear hz hze
    go_wp2_with fail
    rw [HZE.out]
    refine (J.out).mono ?_
    rintro e w15 ⟨uc, rfl, ho, hb⟩
    have HEJ := Lib.hid (fun h => enc_join (s := S.data.toList) (size := z) (by omega) h)
    have HFS := Lib.hid (fun i hi => fill_step (s := S.data.toList) (size := z) (i := i) (by omega) hi)
    have HSM := Lib.hid (smallN_enc (s := S.data.toList) (size := z) (m := 100) (by omega) (by omega))
    obtain ⟨yc, qc, rfl, _, _, atc, _⟩ := ho.form
    have HC := Lib.hid atc
    clear ho atc
    replace HB := Lib.hid (HB.out.trans (hb.mono HB.out.size))
    clear hb J
    have hST := HST.out
    generalize hCC : encCh S.data.toList (z : Int) = C at *
    rw [hST] at HEJ
    have hC40 : C.length ≤ 40 := HSM.out.1
    clear hCC hST HZE
    have hbe : Below w15.heap.size w15 (w15.alloc (.cells #[] 9)) := (Below.refl _ _).alloc (Nat.le_refl _) _
    have HP0 := Lib.hid (show OwnW w15.heap.size (w15.alloc (.cells #[] 9)) (.slice (some ⟨w15.heap.size, 0, none⟩) 0 0) [] from World.ownsRow_lit w15 #[] 0 (Nat.le_refl _) (Nat.zero_le _) rfl)
    have HCe := Lib.hid (HC.out.later hbe)
    have HBe := Lib.hid (HB.out.trans (hbe.mono HB.out.size))
    have hw1 : IntKind.i64.wrap ((C.length : Int) - 1) = (C.length : Int) - 1 := IntWalk.i64_in _ (by omega)
    go_wp2_with fail
    clear hw1
    go_loopw [15, 16, 17, 18] (fun v i x y wr => ∃ k : Nat, k ≤ C.length ∧ i = .int .i64 ((k : Int) - 1) ∧ OwnW w15.heap.size wr v (fillW C k) ∧ Hid (Below w15.heap.size w15 wr)) (fun _ i _ _ _ => (intOf i + 1).toNat)
    case atStart => exact ⟨C.length, Nat.le_refl _, rfl, by rw [fillW_end]; exact HP0.out, Lib.hid hbe⟩
    case round =>
      obtain ⟨k, hk, rfl, ho, HQ⟩ := hrel
      have HO := Lib.hid ho
      clear ho
      cases k with
      | succ j =>
        obtain ⟨fs1, fs2, fs3⟩ := HFS.out j (by omega)
        have hsm := smallN_fill HSM.out (j + 1) (by omega)
        have hsj := HSM.out.2 j
        obtain ⟨xa, rfl, hxl, ca⟩ := (HC.out.later HQ.out) j (by omega)
        have e1 : (((j + 1 : Nat) : Int) - 1) = (j : Int) := by omega
        rw [e1]
        have J0 := implReceiveChunkM _ _ (fillW C (j + 1)) (C.getD j .empty) wr (by have := hsm.1; omega) (hsm.bound (by omega)) HO.out (by omega) (HT.out.below (HB.out.trans (HQ.out.mono HB.out.size))) (HM.out.below (HB.out.trans (HQ.out.mono HB.out.size)))
        rw [fs1, fs2] at J0
        have j2 := fun W (hw : Below wr.heap.size wr W) => implMissingChunk _ _ (fillW C (j + 1)) (C.length : Int) W (by have := hsm.1; omega) (hsm.bound (by omega)) (HO.out.later hw)
        rw [fs3] at j2
        have J := Lib.hid J0
        have J2 := Lib.hid j2
        obtain ⟨yo, qo, hvo⟩ := HO.out.shape
        subst hvo
        generalize C.getD j .empty = ch at *
        have k3 : (0 : Int) ≤ (j : Int) := by omega
        have k5 : (j : Int) < (C.length : Int) := by omega
        have tg : decide ((j : Int) ≥ 0) = true := decide_eq_true k3
        have hw1 : IntKind.i64.wrap ((j : Int) - 1) = (j : Int) - 1 := IntWalk.i64_in _ (by omega)
        clear fs1 fs2 fs3 J0 j2 e1
        go_wp2_with (first | (go_at_call 16; with_reducible refine (J.out).mono ?_; rintro e w16 ⟨ux, rfl, hx, hb⟩; obtain ⟨yx, qx, rfl⟩ := hx.shape) | (go_at_call 17; with_reducible refine (J2.out _ hb).mono ?_; rintro e w17 ⟨rfl, hb2⟩))
        have HZ := Lib.hid (hb.trans (hb2.mono hb.size))
        have HX := Lib.hid ((OwnW.mono hx HQ.out.size).later hb2)
        clear hb hb2 hx J J2
        go_roundw
        case rel => exact ⟨j, by omega, rfl, HX.out, Lib.hid (HQ.out.trans (HZ.out.mono HQ.out.size))⟩
        case measure => first | (simp [intOf]; done) | (simp [intOf]; omega)
      | zero =>
        rw [fillW_zero] at HO
        have e1 : (((0 : Nat) : Int) - 1) = -1 := by omega
        rw [e1]
        obtain ⟨yo, qo, hvo⟩ := HO.out.shape
        subst hvo
        have HBz := Lib.hid (HB.out.trans (HQ.out.mono HB.out.size))
        have J0 := implJoinChunks _ _ C (C.length : Int) wr (by omega) (HSM.out.bound (by omega)) HO.out (HT.out.below HBz.out) (HM.out.below HBz.out).1
        clear e1
        by_cases h0 : C.length = 0
        · have hC0 : C = [] := List.eq_nil_of_length_eq_zero h0
          subst hC0
          have hjn : joinOk [] ((([] : List ByteArray).length : Nat) : Int) = false := join_none
          rw [hjn] at J0
          generalize joinS [] ((([] : List ByteArray).length : Nat) : Int) = js at *
          have J := Lib.hid J0
          clear J0 h0 hjn
          go_wp2_with (go_at_call 18; refine (J.out).mono ?_; rintro e w16 ⟨rfl, hb⟩)
          go_ret
          exact ⟨rfl, HBz.out.trans (hb.mono HBz.out.size)⟩
        · obtain ⟨e1, e2, e3⟩ := HEJ.out (by omega)
          rw [e1, e2, ← HSS.out] at J0
          have j2 := fun W (hw : Below wr.heap.size wr W) => implMissingChunk _ _ C (C.length : Int) W (by omega) (HSM.out.bound (by omega)) (HO.out.later hw)
          rw [e3] at j2
          have J := Lib.hid J0
          have J2 := Lib.hid j2
          have t1 : (S.toList == S.toList) = true := by simp
          have t2 : ((C.length : Int) == 0) = false := by rw [beq_eq_false_iff_ne]; omega
          have t3 : (C.length == 0) = false := by rw [beq_eq_false_iff_ne]; exact h0
          clear J0 j2 e1 e2 e3 h0
          go_wp2_with (first | (go_at_call 18; with_reducible refine (J.out).mono ?_; rintro e w16 ⟨rfl, hb⟩) | (go_at_call 17; with_reducible refine (J2.out _ hb).mono ?_; rintro e w17 ⟨rfl, hb2⟩))
          go_ret
          exact ⟨rfl, (HBz.out.trans (hb.mono HBz.out.size)).trans (hb2.mono (Nat.le_trans HBz.out.size hb.size))⟩
end Go.Proofs.YtpdpejlcilnafaaGreatDoor.fnSnapshots
namespace Go.Proofs.YtpdpejlcilnafaaGreatDoor.fnSnapshots
open Go.ChangeShapes Go.WideShapes Go.ChangeAt Go.RowKit
open Go.ChangeMaps (open_string shut_string)
set_option linter.unusedVariables false

set_option maxRecDepth 100000 in
theorem contract (H : Type) (enc : TypeId × Value → H) (W : World) (base : Nat) (args : Array Value) (ds gs : List (DataW H)) (before : List MemPlace)
    (hval0 : ∀ (j : Nat) t v, Tryz.f3.params[j]? = some t → args[j]? = some v → Value.okWide Tryz.prog W .any base t v)
    (hW : DataW.Whole enc Tryz.prog Tryz.f3.params.toList Rows.fnSnapshotsSpec.vars false W args.toList ds gs before) (hL : laidMetH Tryz.prog Rows.fnSnapshotsRow.laid W) (hS : W.ShapedOpen Tryz.prog) :
    Calls Tryz.prog 3 args W fun e W' => ∃ v, e = .returned v ∧ Rows.fnSnapshotsSpec.post enc Tryz.prog Tryz.f3 false true false false W args v W' := by
  have hT : kit.Tab W := kit.tab_of_laid (by kernel_rfl) hL
  have hval : ∀ (j : Nat) t v, Tryz.f3.params[j]? = some t → args[j]? = some v → Value.okWide Tryz.prog W .any base t v := hval0
  have hW' := hW
  obtain ⟨p, q, hA0, hV, rfl, hfz, hnd⟩ := hW
  have hA : DataW.TrodAll enc Tryz.prog W 0 (fun _ => true) true Tryz.f3.params.toList args.toList ds p := hA0
  rw [Tryz.params3] at hA hval
  obtain ⟨v0, vs0, d0, ds0, p0, q0, hargs, rfl, rfl, h0, r0⟩ := trodAll_cons hA
  obtain ⟨rfl, rfl, rfl⟩ := trodAll_nil r0
  obtain rfl : args = #[v0] := by cases args; simp_all
  obtain ⟨g1, g2, g3, rfl⟩ := kit.trodVars_three hV
  obtain ⟨a0, len0, cap0, rfl⟩ := okWide_slice Tryz.underlying22 (hval 0 22 v0 rfl rfl)
  have k0 := h0
  have lt0 : ∀ x ∈ p0, x.block < W.heap.size := by obtain ⟨m, hm⟩ := k0; exact DataW.trod_lt m _ _ _ hm
  obtain ⟨z0, w0⟩ : ∃ zs, kit.IsRow .u8 W a0 len0 cap0 zs := by
    obtain ⟨fuel, hf⟩ := h0
    rcases open_ints Tryz.underlying22 Tryz.underlying5 (by kernel_rfl) hf with ⟨hcs, _⟩ | ⟨x, l, c, zs, hcs, _, hl, hm, hz, _, hcell, hwz⟩
    · simp [Value.cells] at hcs
      obtain ⟨rfl, rfl, rfl⟩ := hcs
      exact ⟨[], .inl ⟨rfl, rfl, rfl, rfl⟩⟩
    · simp [Value.cells] at hcs
      obtain ⟨rfl, rfl, rfl⟩ := hcs
      exact ⟨zs, .inr ⟨_, rfl, hl, hm, by simpa using hz, hcell, hwz⟩⟩
  clear hA0 hval0
  refine (walk a0 len0 cap0 z0 W w0 hT ⟨kit.mx_of_shape hS, kit.sen_of_laid (by kernel_rfl) (by kernel_rfl) hL⟩).mono fun e W' ⟨he, bel⟩ => ?_
  subst he
  exact ⟨_, rfl, _, _, _, [], _, _, hW', trodAll_mk1 (shut_bool Tryz.underlying4 _), (trodAll_cons_mk (Below.trod kit.laidOut (by kernel_rfl) (of_decide_eq_true (by kernel_rfl)) k0 bel lt0) trodAll_mk0), Below.trodVars kit.laidOut bel (by kernel_rfl) hV, bel.frame _, fun h => by cases h⟩

noncomputable def laidWorld (os : Os) : World :=
  { World.holding Tryz.prog os ⟨kit.senObjs, #[], []⟩ with heap := kit.laidSen (kit.laidCells (kit.laidCells (kit.laidCells (kit.laidCells (kit.laidCells (World.holding Tryz.prog os ⟨kit.senObjs, #[], []⟩).heap 7 Rows.laid_math_bits_deBruijn32tab) 8 Rows.laid_math_bits_deBruijn64tab) 4 Rows.laid_internal_strconv_uint64pow10) 6 Rows.laid_unicode_utf8_acceptRanges) 5 Rows.laid_unicode_utf8_first) }
theorem laid_met (os : Os) : laidMet Tryz.prog Rows.fnSnapshotsRow.laid ((laidWorld os).forCall (fun _ _ => 0) ⟨#[], #[.slice none 0 0], []⟩).memory :=
  laidMet_of_run' 8 (by kernel_rfl) (by kernel_rfl)
theorem reads (os : Os) {H : Type} (enc : TypeId × Value → H) : (DataW.whole enc Tryz.prog ((laidWorld os).forCall (fun _ _ => 0) ⟨#[], #[.slice none 0 0], []⟩).memory Tryz.f3.params.toList Rows.fnSnapshotsSpec.vars false (#[.slice none 0 0] : Array Value).toList 8).isSome = true :=
  by kernel_rfl
set_option maxRecDepth 100000 in
theorem lifted (os : Os) (started : os.Started) (H : Type) (enc : TypeId × Value → H) (F : Stop.Interp) :
    ReturnsInHanded {} Tryz.checked os 3 .any ((OpenSpec.ofChange Rows.fnSnapshotsSpec).preRow enc Tryz.prog Tryz.f3 Rows.fnSnapshotsRow.domain false Rows.fnSnapshotsRow.laid) (((OpenSpec.ofChange Rows.fnSnapshotsSpec).at F).post enc Tryz.prog Tryz.f3 false true false false) := by
  obtain ⟨x, hx⟩ := Option.isSome_iff_exists.1 (reads os enc)
  refine returnsInHanded_of_row (C := Tryz.checked) (s := OpenSpec.ofChange Rows.fnSnapshotsSpec) kit.own started (by kernel_rfl) Tryz.func3
    (witness_row_at (enc := enc) (C := Tryz.checked) false (laidWorld os) #[.slice none 0 0] rfl (by kernel_rfl) (by kernel_rfl) (by kernel_rfl)
      (OpenSpec.preRow_of_cond 8 hx (by kernel_rfl) (fun k hk => by cases hk) (by kernel_rfl) (laid_met os))) ?_
  intro W base args ds gs before hval hW _ _ _ hL hS _
  exact contract H enc W base args ds gs before hval hW hL hS
theorem said : Rows.FnSnapshotsSaid :=
  OpenClaim.holds_of_cond 3 Tryz.f3 rfl rfl rfl rfl rfl rfl rfl ⟨rfl, rfl, rfl, rfl, rfl⟩ rfl rfl rfl rfl rfl (by kernel_rfl) Tryz.func3 (by kernel_rfl)
    (of_decide_eq_true (by kernel_rfl)) (by unfold Func.isWrapper; first | (rw [if_pos (by decide +kernel)]; kernel_rfl) | (rw [if_neg (by decide +kernel)]; exact ⟨rfl, rfl⟩))
    (fun os started H enc _ F => by rw [OpenClaim.pre_eq_preRow]; exact lifted os started H enc F)
theorem plain (f : FuncId) (fn : Func) (hf : Tryz.pinned.checked.prog.funcNamed "loop.example/g01926/laws.FnSnapshots" = some f) (hfn : Tryz.pinned.checked.prog.funcs[f]? = some fn) :
    true = Tryz.pinned.checked.prog.looks [] ∧ ∀ (j : Nat) t, fn.params[j]? = some t → Tryz.pinned.checked.prog.wantsStandIn t = false := by
  obtain rfl : f = 3 := Option.some.inj ((show Tryz.prog.funcNamed "loop.example/g01926/laws.FnSnapshots" = some 3 by kernel_rfl).symm.trans hf) |>.symm
  obtain rfl : fn = Tryz.f3 := (Option.some.inj (Tryz.func3.symm.trans hfn)).symm
  refine ⟨by kernel_rfl, fun j t ht => ?_⟩
  rw [Tryz.params3] at ht
  have hm := Array.mem_of_getElem? ht
  have hall : ∀ t ∈ (#[22] : Array TypeId), Tryz.prog.wantsStandIn t = false := by
    intro t ht
    simp only [List.mem_toArray, List.mem_cons, List.not_mem_nil, or_false] at ht
    subst ht; exact (show Tryz.prog.wantsStandIn 22 = false by kernel_rfl)
  exact hall t hm
theorem proved : Rows.FnSnapshotsCardSaid :=
  Claim7.holds_tied_plain_at .later [] _ _ _ _ said (fun _ h => by cases h) (by kernel_rfl) (fun _ h => by cases h) fnSnapshots_row_tie rfl ⟨rfl, rfl⟩ (by kernel_rfl) rfl plain (by kernel_rfl)
end Go.Proofs.YtpdpejlcilnafaaGreatDoor.fnSnapshots
