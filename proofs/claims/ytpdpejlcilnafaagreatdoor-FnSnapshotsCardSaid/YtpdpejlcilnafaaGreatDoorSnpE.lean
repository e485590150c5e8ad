/-
  Chunks drawn, received, joined by the program (merged text).
-/
import Derived.Test.YtpdpejlcilnafaaGreatDoorSnpC
import Derived.Test.YtpdpejlcilnafaaGreatDoorSnpD
import Derived.Test.YtpdpejlcilnafaaGreatDoorInts
import Derived.Deep.RegionHeld3
import Derived.Deep.DrawnRows
import Derived.Test.YtpdpejlcilnafaaGreatDoorShelf
import Derived.Lib.LastIndexByte
import Derived.Test.YtpdpejlcilnafaaGreatDoorSnpB
import Derived.Test.YtpdpejlcilnafaaGreatDoorSnpA
import Derived.Deep.DeepHandedRow
import Derived.Lib.LaidTab
import Derived.LaidSub
import Derived.Test.YtpdpejlcilnafaaGreatDoorKit
import Derived.LaidEql
import Derived.Stop.Asserts
import Derived.RowKitTokens
import Derived.Deep.DeepCutAuto
import Derived.Stop.LaidTwo
import Derived.OpenVars
namespace Go.Proofs.YtpdpejlcilnafaaGreatDoor.kit
open Go.ChangeShapes Go.WideShapes Go.ChangeAt Go.RowKit
set_option linter.unusedVariables false
set_option linter.unusedSimpArgs false

theorem OwnW.drew {g : Nat} {w w' : World} {base : Nat} {v : Value} {l : List ByteArray} (h : OwnW base w v l) (hd : Drew g w w') (hg : g < base) : OwnW base w' v l := own_drew h hd hg
/-- few short strings -/
def Small (l : List ByteArray) : Prop := l.length ≤ 40 ∧ ∀ j, (l.getD j .empty).size ≤ 100
theorem Small.sum {l : List ByteArray} (h : Small l) : ∀ k, sumW l k ≤ 100 * k
  | 0 => Nat.le_refl _
  | k + 1 => by
    have h1 := h.sum k
    have h2 := h.2 k
    show sumW l k + (l.getD k .empty).size ≤ _
    omega
theorem Small.none : Small [] := ⟨by simp, fun j => by simp⟩
theorem fmtN_short (x y : Int) (L1 : List Int) (L2 : List Sess) : (fmtN x y L1 L2).length ≤ 2000 := by
  unfold fmtN
  split
  · rename_i h
    unfold NOk at h
    have lx := itoa_le x (by omega) (by omega)
    have ly := itoa_le y (by omega) (by omega)
    have lm := fmtM_short L1 L2
    simp
    omega
  · simp
theorem small_enc (s : List UInt8) (z : Int) (h1 : 1 ≤ z) (h9 : z ≤ 9) : Small (encCh s z) := by
  unfold encCh
  split
  · exact Small.none
  · rename_i h
    have hp : partsN s.length z.toNat ≤ 40 := by omega
    refine ⟨by simpa using hp, fun j => ?_⟩
    by_cases hj : j < partsN s.length z.toNat
    · have e : (((List.range (partsN s.length z.toNat)).map (chunkB s z.toNat (partsN s.length z.toNat))).getD j .empty) = chunkB s z.toNat (partsN s.length z.toNat) j := by simp [List.getD, hj]
      rw [e]
      unfold chunkB
      have := chunkL_len (i := (j : Int)) (n := (partsN s.length z.toNat : Int)) (d := partL s z.toNat j) (by omega) (by omega) (by omega) (by omega)
      have hl : (partL s z.toNat j).length ≤ 9 := by unfold partL; simp; omega
      simp [ByteArray.size]
      omega
    · have e : (((List.range (partsN s.length z.toNat)).map (chunkB s z.toNat (partsN s.length z.toNat))).getD j .empty) = .empty := by simp [List.getD, hj]
      rw [e]; decide
theorem small_rec {P : List ByteArray} {s : ByteArray} (h : Small P) (hs : s.size ≤ 100) : Small (recL P s) := by
  cases hr : recOk P s with
  | false => rw [rec_no hr]; exact h
  | true =>
    unfold recL
    rw [if_pos hr]
    rcases readC_cases s.data.toList with ⟨hq, _⟩ | ⟨i, n, d, hrd, hq⟩
    · rw [rec_bad hq |>.1] at hr; cases hr
    · have hk := hrd.1
      unfold okK at hk
      rw [hq]
      refine ⟨by have := h.1; simp; omega, fun j => ?_⟩
      simp only [List.getD_eq_getElem?_getD, List.getElem?_set]
      split
      · split
        · simpa using hs
        · simp
      · rw [List.getElem?_append]
        split
        · have := h.2 j
          simpa [List.getD_eq_getElem?_getD] using this
        · rw [List.getElem?_replicate]
          split <;> simp
set_option maxRecDepth 100000 in
set_option maxHeartbeats 8000000 in
theorem parts_any (g : Nat) (w : World) (hc : Cur g w) : Calls Tryz.prog 56 #[.pointer (some ⟨g, 0, none⟩)] w fun e w' => ∃ (va vp : Value) (A P : List ByteArray), e = .returned (.tuple #[va, vp]) ∧ Small A ∧ Small P ∧ OwnW w.heap.size w' va A ∧ OwnW w.heap.size w' vp P ∧ Drew g w w' := by
  have hgs := hc.lt
  have C1 := Lib.hid (snap_any g w hc)
  go_enter Tryz.func56, Tryz.ntmps56
  go_wp2_with fail
  refine (C1.out).mono ?_
  rintro e w1 ⟨x, y, u1, u2, O, S, rfl, fx, fy, hO, hS, o1, o2, hd⟩
  have C2 := Lib.hid (specSnapshotTextV x y _ _ _ O S w1 hO hS o1.src o2)
  obtain ⟨a1, c1, rfl⟩ := o1.shape
  obtain ⟨a2, c2, rfl⟩ := o2.shape
  have HD := Lib.hid hd
  clear hd o1 o2 fx fy hO hS C1
  go_wp2_with fail
  refine (C2.out).mono ?_
  rintro e w2 ⟨rfl, hb⟩
  have hT := fmtN_short x y O S
  generalize fmtN x y O S = T at *
  replace HD := Lib.hid (HD.out.below (hb.mono HD.out.1.size) hgs)
  have C3 := Lib.hid (below_small g 9 w2 (by decide) (by decide) HD.out.2)
  clear hb C2
  go_wp2_with fail
  refine (C3.out).mono ?_
  rintro e w3 ⟨z, rfl, hz0, hz1, hd⟩
  replace HD := Lib.hid (HD.out.trans hd)
  have hw1 : IntKind.i64.wrap (1 + z) = 1 + z := IntWalk.i64_in _ (by omega)
  have C4 := Lib.hid (specEncodeChunks ⟨T.toArray⟩ (1 + z) w3 (by simp [ByteArray.size]; omega))
  clear hd C3
  go_wp2_with fail
  refine (C4.out).mono ?_
  rintro e w4 ⟨v, rfl, oA, hb⟩
  have hA := small_enc T (1 + z) (by omega) (by omega)
  generalize encCh T (1 + z) = A at *
  obtain ⟨va, vc, rfl⟩ := oA.shape
  have hz3 := HD.out.1.size
  replace HD := Lib.hid (HD.out.below (hb.mono hz3) hgs)
  have hz4 := HD.out.1.size
  have hbL := (Below.refl w4.heap.size w4).alloc (Nat.le_refl _) (.cells #[] 9)
  have HA := Lib.hid ((oA.later hbL).mono hz3)
  have HP := Lib.hid ((show OwnW w4.heap.size (w4.alloc (.cells #[] 9)) (.slice (some ⟨w4.heap.size, 0, none⟩) 0 0) [] from World.ownsRow_lit w4 #[] 0 (Nat.le_refl _) (Nat.zero_le _) rfl).mono hz4)
  replace HD := Lib.hid (HD.out.alloc (.cells #[] 9))
  have C5 := Lib.hid (below_small g 8 _ (by decide) (by decide) HD.out.2)
  clear hb hbL oA C4 hw1 hz3 hz4 hz0 hz1 hT
  go_wp2_with fail
  refine (C5.out).mono ?_
  rintro e w5 ⟨m, rfl, hm0, hm1, hd⟩
  obtain ⟨m, rfl⟩ := Int.eq_ofNat_of_zero_le hm0
  replace HA := Lib.hid (HA.out.drew hd hgs)
  replace HP := Lib.hid (HP.out.drew hd hgs)
  replace HD := Lib.hid (HD.out.trans hd)
  clear hd C5
  have HSA := Lib.hid hA
  clear hA
  go_wp2_with fail
  go_loopw [5, 6] (fun u n wr => ∃ (k : Nat) (P : List ByteArray), n = .int .i64 k ∧ k ≤ 8 ∧ Hid (Small P) ∧ Hid (OwnW w.heap.size wr u P) ∧ Hid (OwnW w.heap.size wr (.slice va A.length vc) A) ∧ Hid (Drew g w wr)) (fun _ n _ => (intOf n).toNat)
  case atStart => exact ⟨m, [], rfl, by omega, Lib.hid Small.none, HP, HA, HD⟩
  case round =>
    clear HA HP HD
    obtain ⟨k, P, rfl, hk, HSP, HP, HA, HD⟩ := hrel
    obtain ⟨pa, pc, rfl⟩ := HP.out.shape
    by_cases hlt : 0 < k
    · have t1 : decide ((k : Int) > 0) = true := decide_eq_true (by omega)
      by_cases hA0 : A.length = 0
      · have t2 : decide (0 < A.length) = false := decide_eq_false (by omega)
        have t3 : decide ((A.length : Int) > 0) = false := decide_eq_false (by omega)
        clear hA0
        go_wp2_with fail
        refine bodyPost_ret (v := .tuple #[.slice va A.length vc, .slice pa P.length pc]) (by simp [results, Tryz.results56, go_sem]) rfl ?_
        exact ⟨_, _, A, P, rfl, HSA.out, HSP.out, HA.out, HP.out, HD.out⟩
      · have t2 : decide (0 < A.length) = true := decide_eq_true (by omega)
        have t3 : decide ((A.length : Int) > 0) = true := decide_eq_true (by omega)
        have hA40 := HSA.out.1
        have C6 := Lib.hid (below_small g (A.length : Int) wr (by omega) (by omega) HD.out.2)
        have hw2 : IntKind.i64.wrap ((k : Int) - 1) = (k : Int) - 1 := IntWalk.i64_in _ (by omega)
        go_wp2_with fail
        refine (C6.out).mono ?_
        rintro e w6 ⟨y, rfl, hy0, hy1, hd⟩
        obtain ⟨y, rfl⟩ := Int.eq_ofNat_of_zero_le hy0
        replace HA := Lib.hid (HA.out.drew hd hgs)
        replace HP := Lib.hid (HP.out.drew hd hgs)
        replace HD := Lib.hid (HD.out.trans hd)
        clear hd C6
        obtain ⟨ga, ca, hv, _⟩ := HA.out.there (by omega)
        injection hv with hv1 hv2 hv3
        subst hv1 hv3
        have hc7 := cellW HA.out y (by omega)
        have hsz : (A.getD y .empty).size ≤ 100 := HSA.out.2 y
        generalize A.getD y .empty = q at *
        have C7 := Lib.hid (specReceiveChunk _ _ P q w6 (by have := HSP.out.1; omega) (by have h1 := HSP.out.sum P.length; have h2 := HSP.out.1; omega) HP.out (by omega))
        have HSN := Lib.hid (small_rec HSP.out hsz)
        have hyA : y < A.length := by omega
        clear hv2 hsz
        go_wp2_with fail
        refine (C7.out).mono ?_
        rintro e w7 ⟨u, rfl, ho, hb⟩
        obtain ⟨ua, uc, rfl⟩ := ho.shape
        have hz6 := HD.out.1.size
        replace HA := Lib.hid (HA.out.later hb)
        replace HP := Lib.hid (ho.mono hz6)
        replace HD := Lib.hid (HD.out.below (hb.mono hz6) hgs)
        clear ho hb C7 hc7 hz6
        go_wp2_with fail
        go_roundw
        case rel => exact ⟨k - 1, _, by simp; omega, by omega, HSN, HP, HA, HD⟩
        case measure => simp [intOf]; omega
    · have t1 : decide ((k : Int) > 0) = false := decide_eq_false (by omega)
      go_wp2_with fail
      refine bodyPost_ret (v := .tuple #[.slice va A.length vc, .slice pa P.length pc]) (by simp [results, Tryz.results56, go_sem]) rfl ?_
      exact ⟨_, _, A, P, rfl, HSA.out, HSP.out, HA.out, HP.out, HD.out⟩
end Go.Proofs.YtpdpejlcilnafaaGreatDoor.kit
namespace Go.Proofs.YtpdpejlcilnafaaGreatDoor.kit
open Go.ChangeShapes Go.WideShapes Go.ChangeAt Go.RowKit
set_option linter.unusedVariables false
set_option linter.unusedSimpArgs false

theorem lit9 (a0 a1 a2 a3 a4 a5 a6 a7 a8 : Int) (h0 : fits a0) (h1 : fits a1) (h2 : fits a2) (h3 : fits a3) (h4 : fits a4) (h5 : fits a5) (h6 : fits a6) (h7 : fits a7) (h8 : fits a8) : ∀ j, j < 9 → ∃ y : Int, (#[.int .i64 a0, .int .i64 a1, .int .i64 a2, .int .i64 a3, .int .i64 a4, .int .i64 a5, .int .i64 a6, .int .i64 a7, .int .i64 a8] : Array Value)[j]? = some (.int .i64 y) ∧ fits y := fun j hj => by
  match j, hj with
  | 0, _ => exact ⟨_, rfl, h0⟩
  | 1, _ => exact ⟨_, rfl, h1⟩
  | 2, _ => exact ⟨_, rfl, h2⟩
  | 3, _ => exact ⟨_, rfl, h3⟩
  | 4, _ => exact ⟨_, rfl, h4⟩
  | 5, _ => exact ⟨_, rfl, h5⟩
  | 6, _ => exact ⟨_, rfl, h6⟩
  | 7, _ => exact ⟨_, rfl, h7⟩
  | 8, _ => exact ⟨_, rfl, h8⟩
set_option maxRecDepth 100000 in
set_option maxHeartbeats 4000000 in
theorem drawTakeSnapshot (A : Option Addr) (len cap : Nat) (zs : List Int) (w : World) (hc : Code w A len cap zs) :
    Calls Tryz.prog 6 #[.slice A len cap] w fun e w' => ∃ (v : Value) (L : List Ent) (i : Int), e = .returned (.tuple #[v, .int .i64 i]) ∧ L.length ≤ 17 ∧ -1 ≤ i ∧ i ≤ 20 ∧ OwnE w.heap.size w' v L ∧ Below w.heap.size w w' := by
  have C1 := Lib.hid (new_any A len cap zs w hc.row hc.low)
  go_enter Tryz.func6, Tryz.ntmps6
  go_wp2_with fail
  refine (C1.out).mono ?_
  rintro e w1 ⟨rfl, hcur, hb1⟩
  have C2 := Lib.hid (any5_any w.heap.size w1 hcur)
  have hlt := hcur.lt
  clear C1
  go_wp2_with fail
  refine (C2.out).mono ?_
  rintro e w2 ⟨v1, L, rfl, hL, ho1, hd2⟩
  obtain ⟨y1, q1, rfl⟩ := ho1.shape
  have hb2 := drew_below hb1 (Nat.le_refl _) hd2
  have hw : IntKind.i64.wrap ((L.length : Int) + 3) = (L.length : Int) + 3 := IntWalk.i64_in _ (by omega)
  have C3 := Lib.hid (below_small w.heap.size ((L.length : Int) + 3) w2 (by omega) (by omega) hd2.2)
  clear C2
  go_wp2_with fail
  refine (C3.out).mono ?_
  rintro e w3 ⟨y, rfl, hy0, hy1, hd3⟩
  have hw2 : IntKind.i64.wrap (y - 1) = y - 1 := IntWalk.i64_in _ (by omega)
  have ho3 := (ho1.drew hd3 hlt).mono (Nat.le_of_lt hlt)
  have hb3 := drew_below hb2 (Nat.le_refl _) hd3
  clear C3 hw
  go_wp2_with fail
  go_ret2
  exact ⟨_, L, y - 1, rfl, hL, by omega, by omega, ho3, hb3⟩
set_option maxRecDepth 100000 in
set_option maxHeartbeats 4000000 in
theorem drawEncodeChunks (A : Option Addr) (len cap : Nat) (zs : List Int) (w : World) (hc : Code w A len cap zs) :
    Calls Tryz.prog 21 #[.slice A len cap] w fun e w' => ∃ (T : List UInt8) (z : Int), e = .returned (.tuple #[.string ⟨T.toArray⟩, .int .i64 z]) ∧ T.length ≤ 2000 ∧ fits z ∧ Below w.heap.size w w' := by
  have C1 := Lib.hid (new_any A len cap zs w hc.row hc.low)
  go_enter Tryz.func21, Tryz.ntmps21
  go_wp2_with fail
  refine (C1.out).mono ?_
  rintro e w1 ⟨rfl, hcur, hb1⟩
  have C2 := Lib.hid (snap_any w.heap.size w1 hcur)
  have hlt := hcur.lt
  clear C1
  go_wp2_with fail
  refine (C2.out).mono ?_
  rintro e w2 ⟨x, y, u1, u2, O, S, rfl, fx, fy, hO, hS, o1, o2, hd⟩
  have C3 := Lib.hid (specSnapshotTextV x y _ _ _ O S w2 hO hS o1.src o2)
  obtain ⟨a1, c1, rfl⟩ := o1.shape
  obtain ⟨a2, c2, rfl⟩ := o2.shape
  have hb2 := drew_below hb1 (Nat.le_refl _) hd
  have HCU := Lib.hid hd.2
  have hlt2 := hd.2.lt
  clear C2 o1 o2 hd fx fy hO hS
  go_wp2_with fail
  refine (C3.out).mono ?_
  rintro e w3 ⟨rfl, hb3⟩
  have hT := fmtN_short x y O S
  generalize fmtN x y O S = T at *
  have hbL := (Below.refl w3.heap.size w3).alloc (Nat.le_refl _) (.cells #[.int .i64 1, .int .i64 2, .int .i64 3, .int .i64 5, .int .i64 9, .int .i64 40, .int .i64 9223372036854775807, .int .i64 0, .int .i64 (-1)] 3)
  have hlt3 := Nat.lt_of_lt_of_le hlt2 hb3.size
  have HC3 := Lib.hid (Cur.below HCU.out hb3 hlt2)
  have HC4 := Lib.hid (Cur.below HC3.out hbL hlt3)
  have HB4 := Lib.hid ((hb2.trans (hb3.mono hb2.size)).trans (hbL.mono (Nat.le_trans hb2.size hb3.size)))
  have C5 := Lib.hid (pickInt_any w.heap.size w3.heap.size 9 #[.int .i64 1, .int .i64 2, .int .i64 3, .int .i64 5, .int .i64 9, .int .i64 40, .int .i64 9223372036854775807, .int .i64 0, .int .i64 (-1)] _ (by decide) (by decide) HC4.out (heap_alloc_new w3 _) (by omega) (lit9 _ _ _ _ _ _ _ _ _ (by unfold fits; omega) (by unfold fits; omega) (by unfold fits; omega) (by unfold fits; omega) (by unfold fits; omega) (by unfold fits; omega) (by unfold fits; omega) (by unfold fits; omega) (by unfold fits; omega)))
  clear hbL C3 hb3 hb2 hb1
  go_wp2_with fail
  refine (C5.out).mono ?_
  rintro e w5 ⟨z, rfl, fz, hd⟩
  have hb5 := drew_below HB4.out (Nat.le_refl _) hd
  clear C5
  go_wp2_with fail
  go_ret2
  exact ⟨T, z, rfl, hT, fz, hb5⟩
set_option maxRecDepth 100000 in
set_option maxHeartbeats 4000000 in
theorem drawJoinChunks (A : Option Addr) (len cap : Nat) (zs : List Int) (w : World) (hc : Code w A len cap zs) :
    Calls Tryz.prog 23 #[.slice A len cap] w fun e w' => ∃ (v : Value) (P : List ByteArray) (i : Int), e = .returned (.tuple #[v, .int .i64 i]) ∧ Small P ∧ 0 ≤ i ∧ i ≤ 41 ∧ OwnW w.heap.size w' v P ∧ Below w.heap.size w w' := by
  have C1 := Lib.hid (new_any A len cap zs w hc.row hc.low)
  go_enter Tryz.func23, Tryz.ntmps23
  go_wp2_with fail
  refine (C1.out).mono ?_
  rintro e w1 ⟨rfl, hcur, hb1⟩
  have C2 := Lib.hid (parts_any w.heap.size w1 hcur)
  have hlt := hcur.lt
  clear C1
  go_wp2_with fail
  refine (C2.out).mono ?_
  rintro e w2 ⟨va, vp, B, P, rfl, hB, hP, oA, oP, hd⟩
  obtain ⟨xa, xc, rfl⟩ := oA.shape
  obtain ⟨ya, yc, rfl⟩ := oP.shape
  have hb2 := drew_below hb1 (Nat.le_refl _) hd
  have C3 := Lib.hid (below_small w.heap.size 4 w2 (by decide) (by decide) hd.2)
  clear C2
  go_wp2_with fail
  refine (C3.out).mono ?_
  rintro e w3 ⟨k, rfl, hk0, hk1, hd3⟩
  have p1 := (oA.drew hd3 hlt).mono (Nat.le_of_lt hlt)
  have p2 := (oP.drew hd3 hlt).mono (Nat.le_of_lt hlt)
  have HP1 := Lib.hid p1
  have HP2 := Lib.hid p2
  have HB3 := Lib.hid (drew_below hb2 (Nat.le_refl _) hd3)
  have HSB := Lib.hid hB
  have HSP := Lib.hid hP
  have hB40 := hB.1
  have hP40 := hP.1
  have hw : IntKind.i64.wrap ((B.length : Int) + 1) = (B.length : Int) + 1 := IntWalk.i64_in _ (by omega)
  clear C3 oA oP hd3 hd hb2 hb1 p1 p2 hB hP hcur
  have hk : k = 0 ∨ k = 1 ∨ 2 ≤ k := by omega
  rcases hk with rfl | rfl | hk
  · go_wp2_with fail
    go_ret2
    exact ⟨_, P, (B.length : Int), rfl, HSP.out, by omega, by omega, HP2.out, HB3.out⟩
  · go_wp2_with fail
    go_ret2
    exact ⟨_, B, (B.length : Int) + 1, rfl, HSB.out, by omega, by omega, HP1.out, HB3.out⟩
  · have n0 : (k == 0) = false := by rw [beq_eq_false_iff_ne]; omega
    have n1 : (k == 1) = false := by rw [beq_eq_false_iff_ne]; omega
    go_wp2_with fail
    go_ret2
    exact ⟨_, B, (B.length : Int), rfl, HSB.out, by omega, by omega, HP1.out, HB3.out⟩
end Go.Proofs.YtpdpejlcilnafaaGreatDoor.kit
namespace Go.Proofs.YtpdpejlcilnafaaGreatDoor.kit
open Go.ChangeShapes Go.WideShapes Go.ChangeAt Go.RowKit
set_option linter.unusedVariables false

/-- what is left behind a leading minus -/
def strip (l : List UInt8) : List UInt8 := Lib.trimPrefix l [45]
theorem strip_minus (l : List UInt8) : strip (45 :: l) = l := by simp [strip, Lib.trimPrefix, Lib.hasPrefix]
theorem strip_other {l : List UInt8} (h : l.head? ≠ some 45) : strip l = l := by
  cases l with
  | nil => rfl
  | cons b l =>
    have hb : b ≠ 45 := fun e => h (by rw [e]; rfl)
    simp [strip, Lib.trimPrefix, Lib.hasPrefix]
    intro e; exact absurd e.symm hb
theorem strip_itoa (n : Int) : strip (Lib.itoa n) = Lib.decDigits n.natAbs := by
  unfold Lib.itoa
  by_cases h : n < 0
  · rw [if_pos h, strip_minus]
  · rw [if_neg h, strip_other (decDigits_head _), show n.toNat = n.natAbs by omega]
theorem strip_cases (l : List UInt8) : (l.length = (strip l).length + 1 ∧ cand l = -(dsum (strip l) : Int) ∧ dcount l = dcount (strip l)) ∨ (l.length = (strip l).length ∧ cand l = (dsum (strip l) : Int) ∧ dcount l = dcount (strip l)) := by
  by_cases h : l.head? = some 45
  · cases l with
    | nil => cases h
    | cons b l =>
      obtain rfl : b = 45 := Option.some.inj h
      rw [strip_minus]
      exact .inl ⟨rfl, by unfold cand; rw [if_pos h, dsum_minus], dcount_minus l⟩
  · rw [strip_other h]
    exact .inr ⟨rfl, by unfold cand; rw [if_neg h], rfl⟩
theorem par_strip_long {l : List UInt8} (h : 9 < (strip l).length) : parOk l = false ∧ parN l = 0 := par_no fun n hn he => by
  subst he
  rw [strip_itoa] at h
  have := decDigits_length_le hn
  omega
theorem par_strip_bad {l : List UInt8} {b : UInt8} (hb : b ∈ strip l) (h : isDig b = false) : parOk l = false ∧ parN l = 0 := par_no fun n hn he => by
  subst he
  rw [strip_itoa] at hb
  have := (dec_sum _).2.2 b hb
  rw [h] at this
  cases this
set_option maxRecDepth 100000 in
set_option maxHeartbeats 4000000 in
theorem implParseInt (s : ByteArray) (w : World) (hs : s.size ≤ 1048576) (hT : Tab w) :
    Calls Tryz.prog 82 #[.string s] w fun e w' => e = .returned (.tuple #[.int .i64 (parN s.data.toList), .bool (parOk s.data.toList)]) ∧ Below w.heap.size w w' := by
  have hsz : s.data.toList.length = s.size := by rw [Array.length_toList]; rfl
  have hcs := strip_cases s.data.toList
  rw [hsz] at hcs
  clear hsz
  obtain ⟨t, ht⟩ : ∃ t : ByteArray, t = ⟨(strip s.data.toList).toArray⟩ := ⟨_, rfl⟩
  have htl : t.data.toList = strip s.data.toList := by rw [ht]
  have hts : (strip s.data.toList).length = t.size := by rw [← htl, Array.length_toList]; rfl
  have c1 : ∀ W, Calls Tryz.prog 115 #[.string s, .string { data := #[45] }] W fun e w' => e = .returned (.string t) ∧ W = w' := fun W => by
    rw [ht]
    exact (Tryz.strings_TrimPrefix s { data := #[45] } W).mono fun e w' ⟨h1, h2⟩ => ⟨h1, h2.symm⟩
  have C1 := fun W => Lib.hid (c1 W)
  rw [hts, ← htl] at hcs
  have HC := Lib.hid hcs
  have HTL := Lib.hid htl
  have HTS := Lib.hid hts
  have htz : t.size ≤ 1048576 := by rcases hcs with ⟨h, _⟩ | ⟨h, _⟩ <;> omega
  clear c1 hcs ht htl hts
  by_cases hlong : t.size ≤ 9
  · go_enter Tryz.func82, Tryz.ntmps82
    go_wp2_with (go_at_call 115; refine ((C1 _).out).mono ?_; rintro e w1 ⟨rfl, rfl⟩)
    go_loopw [5] (fun n wr => ∃ k m : Nat, k ≤ t.size ∧ wr = w.iter t k ∧ n = .int .i64 m ∧ Hid (m = dsum (t.data.toList.take k)) ∧ Hid (dcount (t.data.toList.take k) = k)) (fun _ wr => t.size - wr.iterPos w.heap.size)
    case atStart => exact ⟨0, 0, by omega, rfl, rfl, Lib.hid rfl, Lib.hid rfl⟩
    case round =>
      obtain ⟨k, m, hk, rfl, rfl, hm, hcnt⟩ := hrel
      have hm9 : m < 1000000000 := by
        have h1 := dsum_lt (t.data.toList.take k)
        rw [← hm.out, hcnt.out] at h1
        have h2 := Nat.pow_le_pow_right (show 10 > 0 by omega) (show k ≤ 9 by omega)
        have h3 : 10 ^ 9 = 1000000000 := by decide
        omega
      by_cases hlt : k < t.size
      · have hbk : t[k].toNat < 256 := t[k].toNat_lt
        have hmem : Hid (t[k] ∈ strip s.data.toList) := Lib.hid (by
          rw [← HTL.out]
          have h1 : k < t.data.toList.length := by rw [HTL.out, HTS.out]; exact hlt
          exact List.getElem_mem h1)
        by_cases hlow : t[k].toNat < 128
        · have hnx : ∀ ty, (Instr.next (.pointer (some ⟨w.heap.size, 0, none⟩)) true ty).run Tryz.prog (w.iter t k) = _ := fun ty => run_next_ascii w t k ty hlt hlow
          by_cases h48 : 48 ≤ t[k].toNat
          · by_cases h57 : t[k].toNat ≤ 57
            · have hd : isDig t[k] = true := by unfold isDig; simp; omega
              have ht := take_snoc t k hlt
              have HM : Hid (10 * m + (t[k].toNat - 48) = dsum (t.data.toList.take (k + 1))) := Lib.hid (by rw [ht, dsum_snoc, if_pos hd, ← hm.out]; omega)
              have HQ : Hid (dcount (t.data.toList.take (k + 1)) = k + 1) := Lib.hid (by rw [ht, dcount_snoc, if_pos hd, hcnt.out])
              clear hd ht
              have g1 : decide ((t[k].toNat : Int) < 48) = false := by simp; omega
              have g2 : decide ((57 : Int) < t[k].toNat) = false := by simp; omega
              go_wp2_with fail
              go_roundw
              case rel => exact ⟨k + 1, 10 * m + (t[k].toNat - 48), by omega, rfl, by go_num, HM, HQ⟩
              case measure => simp; omega
            · have HD := Lib.hid (par_strip_bad hmem.out (by unfold isDig; simp; omega))
              have g1 : decide ((t[k].toNat : Int) < 48) = false := by simp; omega
              have g2 : decide ((57 : Int) < t[k].toNat) = true := by simp; omega
              go_wp2_with fail
              go_ret2
              exact ⟨by rw [HD.out.1, HD.out.2]; rfl, (Below.refl _ _).alloc (Nat.le_refl _) _⟩
          · have HD := Lib.hid (par_strip_bad hmem.out (by unfold isDig; simp; omega))
            have g1 : decide ((t[k].toNat : Int) < 48) = true := by simp; omega
            go_wp2_with fail
            go_ret2
            exact ⟨by rw [HD.out.1, HD.out.2]; rfl, (Below.refl _ _).alloc (Nat.le_refl _) _⟩
        · have HD := Lib.hid (par_strip_bad hmem.out (by unfold isDig; simp; omega))
          have hnx : ∀ ty, (Instr.next (.pointer (some ⟨w.heap.size, 0, none⟩)) true ty).run Tryz.prog (w.iter t k) = _ := fun ty => run_next_any w t k ty hlt
          have hd1 := (decode_high t k hlt (by omega)).1
          have hd2 := decode_le t k
          obtain ⟨d, hd⟩ : ∃ d, d = Utf8.decode t k := ⟨_, rfl⟩
          simp only [← hd] at hnx hd1 hd2
          clear hd
          have g1 : decide ((d.1 : Int) < 48) = false := by simp; omega
          have g2 : decide ((57 : Int) < (d.1 : Int)) = true := by simp; omega
          go_wp2_with fail
          go_ret2
          exact ⟨by rw [HD.out.1, HD.out.2]; rfl, (Below.refl _ _).alloc (Nat.le_refl _) _⟩
      · obtain rfl : k = t.size := by omega
        have hnx : ∀ ty, (Instr.next (.pointer (some ⟨w.heap.size, 0, none⟩)) true ty).run Tryz.prog (w.iter t t.size) = _ := fun ty => run_next_end w t t.size ty hlt
        have hfull : t.data.toList.take t.size = t.data.toList := List.take_of_length_le (by rw [HTL.out, HTS.out]; omega)
        rw [hfull] at hm hcnt
        clear hfull
        have hTi : Tab (w.iter t t.size) := hT.below ((Below.refl _ _).alloc (Nat.le_refl _) _)
        have hbi : Below w.heap.size w (w.iter t t.size) := (Below.refl _ _).alloc (Nat.le_refl _) _
        rcases HC.out with ⟨hlen, hcand, hct⟩ | ⟨hlen, hcand, hct⟩
        · rw [← hm.out] at hcand
          have hcount : Hid (dcount s.data.toList ≤ 9) := Lib.hid (by rw [hct, hcnt.out]; exact hlong)
          have g0 : t.size < s.size := by omega
          have HCA := Lib.hid hcand
          clear hlen hcand hct
          by_cases he : Lib.itoa (-(m : Int)) = s.data.toList
          · have HD := Lib.hid (par_same (l := s.data.toList) hcount.out (by rw [HCA.out]; exact he))
            have g2 : (Lib.itoa (-(m : Int)) == s.toList) = true := by rw [ByteArray.toList_eq]; simpa using he
            clear he
            go_wp2_with (go_at_call 40; refine (implFormatInt _ _ (by omega) (by omega) hTi).mono ?_; rintro e w1 ⟨rfl, hb1⟩)
            go_ret2
            exact ⟨by rw [HD.out.1, HD.out.2, HCA.out]; rfl, hbi.trans (hb1.mono hbi.size)⟩
          · have HD := Lib.hid (par_other (l := s.data.toList) (by rw [HCA.out]; exact he))
            have g2 : (Lib.itoa (-(m : Int)) == s.toList) = false := by rw [ByteArray.toList_eq]; simpa using he
            clear he
            go_wp2_with (go_at_call 40; refine (implFormatInt _ _ (by omega) (by omega) hTi).mono ?_; rintro e w1 ⟨rfl, hb1⟩)
            go_ret2
            exact ⟨by rw [HD.out.1, HD.out.2]; rfl, hbi.trans (hb1.mono hbi.size)⟩
        · rw [← hm.out] at hcand
          have hcount : Hid (dcount s.data.toList ≤ 9) := Lib.hid (by rw [hct, hcnt.out]; exact hlong)
          have g0 : ¬ t.size < s.size := by omega
          have HCA := Lib.hid hcand
          clear hlen hcand hct
          by_cases he : Lib.itoa (m : Int) = s.data.toList
          · have HD := Lib.hid (par_same (l := s.data.toList) hcount.out (by rw [HCA.out]; exact he))
            have g2 : (Lib.itoa (m : Int) == s.toList) = true := by rw [ByteArray.toList_eq]; simpa using he
            clear he
            go_wp2_with (go_at_call 40; refine (implFormatInt _ _ (by omega) (by omega) hTi).mono ?_; rintro e w1 ⟨rfl, hb1⟩)
            go_ret2
            exact ⟨by rw [HD.out.1, HD.out.2, HCA.out]; rfl, hbi.trans (hb1.mono hbi.size)⟩
          · have HD := Lib.hid (par_other (l := s.data.toList) (by rw [HCA.out]; exact he))
            have g2 : (Lib.itoa (m : Int) == s.toList) = false := by rw [ByteArray.toList_eq]; simpa using he
            clear he
            go_wp2_with (go_at_call 40; refine (implFormatInt _ _ (by omega) (by omega) hTi).mono ?_; rintro e w1 ⟨rfl, hb1⟩)
            go_ret2
            exact ⟨by rw [HD.out.1, HD.out.2]; rfl, hbi.trans (hb1.mono hbi.size)⟩
  · have HD := Lib.hid (par_strip_long (l := s.data.toList) (by rw [HTS.out]; omega))
    have hlong : (9 : Int) < t.size := by omega
    go_enter Tryz.func82, Tryz.ntmps82
    go_wp2_with (go_at_call 115; refine ((C1 _).out).mono ?_; rintro e w1 ⟨rfl, rfl⟩)
    go_ret2
    exact ⟨by rw [HD.out.1, HD.out.2]; rfl, Below.refl _ _⟩
end Go.Proofs.YtpdpejlcilnafaaGreatDoor.kit
namespace Go.Proofs.YtpdpejlcilnafaaGreatDoor.kit
open Go.ChangeShapes Go.WideShapes Go.ChangeAt Go.RowKit
set_option linter.unusedVariables false
attribute [local go_sem ↓] Go.wp_at_zero Go.wp_at_succ

/-- the address a leads to the strings ps -/
def AtP (w : World) (a : Option Addr) (ps : List (List UInt8)) : Prop := ∀ j, j < ps.length → ∃ x : Addr, a = some x ∧ x.block < w.heap.size ∧ w.cell? (x.add j) = some (str (ps.getD j []))
theorem AtP.later {w w' : World} {a : Option Addr} {ps : List (List UInt8)} (h : AtP w a ps) (hb : Below w.heap.size w w') : AtP w' a ps := fun j hj => by
  obtain ⟨x, hx, hlt, hc⟩ := h j hj
  exact ⟨x, hx, Nat.lt_of_lt_of_le hlt hb.size, (hb.cell (p := x.add j) (by unfold Addr.add; split <;> exact hlt)).trans hc⟩
theorem allPar_snoc {ps : List (List UInt8)} {k : Nat} (h : k < ps.length) : allPar (ps.take (k + 1)) = (allPar (ps.take k) && parOk (ps.getD k [])) := by
  unfold allPar
  rw [List.take_succ_eq_append_getElem h, List.all_append]
  simp [List.getD, h]
theorem allPar_no {ps : List (List UInt8)} {k : Nat} (h : k < ps.length) (hk : parOk (ps.getD k []) = false) : allPar ps = false := by
  unfold allPar
  rw [List.all_eq_false]
  refine ⟨ps[k], List.getElem_mem h, ?_⟩
  have e : ps.getD k [] = ps[k] := by simp [List.getD, h]
  rw [e] at hk
  simp [hk]
theorem nums_snoc {ps : List (List UInt8)} {k : Nat} (h : k < ps.length) : (ps.take (k + 1)).map parN = (ps.take k).map parN ++ [parN (ps.getD k [])] := by
  rw [List.take_succ_eq_append_getElem h, List.map_append]
  simp [List.getD, h]
def numsOf (ps : List (List UInt8)) : List Int := if allPar ps then ps.map parN else []

theorem implParseIntL (p : List UInt8) (w : World) (h : p.length ≤ 1048576) (hT : Tab w) : Calls Tryz.prog 82 #[str p] w fun e w' => e = .returned (.tuple #[.int .i64 (parN p), .bool (parOk p)]) ∧ Below w.heap.size w w' := by
  have := implParseInt ⟨p.toArray⟩ w (by simpa [ByteArray.size] using h) hT
  simpa using this
set_option maxRecDepth 100000 in
set_option maxHeartbeats 4000000 in
theorem parseInts (a : Option Addr) (n c : Nat) (ps : List (List UInt8)) (w : World) (hn : n = ps.length) (h5 : n ≤ 5) (hs : ∀ j, (ps.getD j []).length ≤ 1048576) (hat : AtP w a ps) (hT : Tab w) :
    Calls Tryz.prog 43 #[.slice a n c] w fun e w' => ∃ v, e = .returned (.tuple #[v, .bool (allPar ps)]) ∧ OwnI w.heap.size w' v (numsOf ps) ∧ Below w.heap.size w w' := by
  have hmk : ∀ W : World, (Instr.makeSlice 27 (.int .i64 0) (.int .i64 (n : Int))).run Tryz.prog W = .ok (.slice (some ⟨W.heap.size, 0, none⟩) 0 n) (W.alloc (.cells (madeCells #[.int .i64 0] n) 3)) := fun W => by
    obtain ⟨i0, hi, hz0, hz1, hz2⟩ := info_parts infoI
    have h := run_make (P := Tryz.prog) W 27 3 i0 (.int .i64 0) Tryz.underlying27 hi hz0 .i64 .i64 0 (n : Int) (by omega) (by omega) (by rw [hz2]; omega) (by omega)
    simpa [hz1, Value.cells] using h
  have HN := Lib.hid hn
  have HA := Lib.hid hat
  have HS := Lib.hid hs
  clear hn hat hs
  go_enter Tryz.func43, Tryz.ntmps43
  go_wp2_with fail
  clear hmk
  go_loopw [4, 14] (fun v i wr => ∃ k : Nat, k ≤ n ∧ i = .int .i64 k ∧ OwnI w.heap.size wr v ((ps.take k).map parN) ∧ Hid (allPar (ps.take k) = true) ∧ Below w.heap.size w wr) (fun _ i _ => n - (intOf i).toNat)
  case atStart => exact ⟨0, Nat.zero_le _, rfl, World.ownsRow_made w _ _ (Nat.le_refl _) (by unfold maxLen; omega) (by simp [size_madeCells]), Lib.hid rfl, (Below.refl _ _).alloc (Nat.le_refl _) _⟩
  case round =>
    obtain ⟨k, hk, rfl, ho, hall, hb⟩ := hrel
    by_cases hlt : k < n
    · have hkp : k < ps.length := by rw [← HN.out]; exact hlt
      obtain ⟨p, rfl, hp, hc⟩ := HA.out k hkp
      have hc' : wr.cell? (p.add k) = some (str (ps.getD k [])) := (hb.cell (p := p.add k) (by unfold Addr.add; split <;> exact hp)).trans hc
      have hlen : ((ps.take k).map parN).length ≤ 5 := by rw [List.length_map, List.length_take]; omega
      have C1 := Lib.hid (implParseIntL (ps.getD k []) wr (HS.out k) (hT.below hb))
      have HB := Lib.hid hb
      have HO := Lib.hid ho
      have hs0 := hb.size
      by_cases hq : parOk (ps.getD k []) = true
      · have HX := Lib.hid (nums_snoc hkp)
        have HY : Hid (allPar (ps.take (k + 1)) = true) := Lib.hid (by rw [allPar_snoc hkp, hall.out, hq]; rfl)
        rw [hq] at C1
        clear hc hkp ho hb hq
        generalize ps.getD k [] = q at *
        go_wp2_with fail
        refine (C1.out).mono ?_
        rintro e w1 ⟨rfl, hb1⟩
        have ho1 := (HO.out.later hb1).row
        have hs1 : w.heap.size ≤ w1.heap.size := Nat.le_trans hs0 hb1.size
        have HB1 := Lib.hid hb1
        clear hb1
        go_wp2_with (at_builtin; refine wpList_push1 rfl _ _ 27 rfl w.heap.size 3 (.int .i64 0) 8 Tryz.underlying27 infoI rfl _ _ _ rfl ho1 _ 1 rfl (by rfl) (by omega) (by omega) hs1 ?_; intro v' w9 hown' hb9 hg9)
        go_roundw
        case rel => exact ⟨k + 1, by omega, by go_num, by rw [HX.out]; exact OwnI.snoc hown', HY, (HB.out.trans (HB1.out.mono hs0)).trans hb9⟩
        case measure => simp [intOf]; omega
      · have hq : parOk (ps.getD k []) = false := by simpa using hq
        have HF := Lib.hid (allPar_no hkp hq)
        have HE : Hid (numsOf ps = []) := Lib.hid (by unfold numsOf; rw [HF.out]; rfl)
        rw [hq] at C1
        clear hc hkp ho hb hq
        generalize ps.getD k [] = q at *
        go_wp2_with (go_at_call 82; refine (C1.out).mono ?_; rintro e w1 ⟨rfl, hb1⟩)
        go_ret2
        exact ⟨_, by rw [HF.out]; rfl, by rw [HE.out]; exact World.ownsRow_nil _ _ _ _, HB.out.trans (hb1.mono hs0)⟩
    · obtain rfl : k = n := by omega
      have hfull : ps.take k = ps := List.take_of_length_le (by rw [← HN.out]; exact Nat.le_refl _)
      rw [hfull] at ho hall
      have HE : Hid (numsOf ps = ps.map parN) := Lib.hid (by unfold numsOf; rw [hall.out]; rfl)
      have HO := Lib.hid ho
      have HB := Lib.hid hb
      clear hfull ho hb
      go_wp2_with fail
      go_ret2
      exact ⟨_, by rw [hall.out]; rfl, by rw [HE.out]; exact HO.out, HB.out⟩
end Go.Proofs.YtpdpejlcilnafaaGreatDoor.kit
namespace Go.Proofs.YtpdpejlcilnafaaGreatDoor.kit
open Go.ChangeShapes Go.WideShapes Go.ChangeAt Go.RowKit
set_option linter.unusedVariables false

theorem OwnI.cellsAt {b : Nat} {w : World} {v : Value} {l : List Int} (h : OwnI b w v l) (h0 : 0 < l.length) : ∃ g c, v = .slice (some ⟨g, 0, none⟩) l.length c ∧ l.length ≤ c ∧ c ≤ maxLen ∧ g < w.heap.size ∧ ∀ j, j < l.length → w.cell? ⟨g, j, none⟩ = some (.int .i64 (l.getD j 0)) := by
  obtain ⟨g, c, rfl, h1, h2, _, h3⟩ := h.there h0
  refine ⟨g, c, rfl, h1, h2, h3, fun j hj => ?_⟩
  have := h.row.cellAt j (by omega)
  rw [this]
  simp [List.getD, hj]
theorem OwnI.two {b : Nat} {w : World} {v : Value} {x y : Int} (h : OwnI b w v [x, y]) : ∃ g c, v = .slice (some ⟨g, 0, none⟩) 2 c ∧ 2 ≤ c ∧ c ≤ maxLen ∧ g < w.heap.size ∧ w.cell? ⟨g, 0, none⟩ = some (.int .i64 x) ∧ w.cell? ⟨g, 1, none⟩ = some (.int .i64 y) := by
  obtain ⟨g, c, h1, h2, h3, h4, h5⟩ := h.cellsAt (by simp)
  exact ⟨g, c, h1, h2, h3, h4, h5 0 (by simp), h5 1 (by simp)⟩
theorem OwnI.three {b : Nat} {w : World} {v : Value} {x z y : Int} (h : OwnI b w v [x, z, y]) : ∃ g c, v = .slice (some ⟨g, 0, none⟩) 3 c ∧ 3 ≤ c ∧ c ≤ maxLen ∧ g < w.heap.size ∧ w.cell? ⟨g, 0, none⟩ = some (.int .i64 x) ∧ w.cell? ⟨g, 1, none⟩ = some (.int .i64 z) ∧ w.cell? ⟨g, 2, none⟩ = some (.int .i64 y) := by
  obtain ⟨g, c, h1, h2, h3, h4, h5⟩ := h.cellsAt (by simp)
  exact ⟨g, c, h1, h2, h3, h4, h5 0 (by simp), h5 1 (by simp), h5 2 (by simp)⟩
/-- the library's variable MaxLen holds some int -/
def Mx (w : World) : Prop := ∃ m, w.cell? ⟨3, 0, none⟩ = some (.int .i64 m)
theorem Mx.below {w w' : World} (h : Mx w) (hb : Below w.heap.size w w') : Mx w' := by
  obtain ⟨m, hm⟩ := h
  exact ⟨m, (hb.cell (p := ⟨3, 0, none⟩) (World.block_lt_of_cell? w _ hm)).trans hm⟩
theorem mx_of_shape {W : World} (h : W.ShapedOpen Tryz.prog) : Mx W := Go.Proofs.cell_of_shapedOpen_int (zero := #[.int .i64 0]) (t := 3) h (of_decide_eq_true (by kernel_rfl)) (by kernel_rfl) rfl (by kernel_rfl) (by kernel_rfl) Tryz.underlying3
end Go.Proofs.YtpdpejlcilnafaaGreatDoor.kit
namespace Go.Proofs.YtpdpejlcilnafaaGreatDoor.kit
open Go.ChangeShapes Go.WideShapes Go.ChangeAt Go.RowKit
set_option linter.unusedVariables false
set_option linter.unusedSimpArgs false

theorem last35 (s : ByteArray) : (Lib.lastIndexByte s 35 = -1 ∧ (35 : UInt8) ∉ s.data.toList) ∨ ∃ i : Nat, i < s.size ∧ Lib.lastIndexByte s 35 = i ∧ s.data.toList = s.data.toList.take i ++ 35 :: s.data.toList.drop (i + 1) ∧ (35 : UInt8) ∉ s.data.toList.drop (i + 1) := by
  have hget : ∀ j (h : j < s.size), s.data[j]! = s[j] := fun j h => by
    rw [getElem!_pos s.data j h]; rfl
  rcases Lib.lastIndexByte_spec s 35 with ⟨h1, h2⟩ | ⟨i, hi, h1, h2, h3⟩
  · refine .inl ⟨h1, fun hm => ?_⟩
    obtain ⟨j, hj, he⟩ := List.getElem_of_mem hm
    rw [toL_len] at hj
    apply h2 j hj
    rw [hget j hj, show s[j] = 35 from he]; rfl
  · rw [hget i hi] at h2
    have e : s[i] = 35 := by apply UInt8.toNat.inj; show s[i].toNat = 35; omega
    refine .inr ⟨i, hi, h1, ?_, fun hm => ?_⟩
    · have := at_get s i hi
      rw [e] at this
      rw [← this, List.take_append_drop]
    · obtain ⟨j, hj, he⟩ := List.getElem_of_mem hm
      rw [List.length_drop, toL_len] at hj
      rw [List.getElem_drop] at he
      apply h3 (i + 1 + j) (by omega) (by omega)
      rw [hget _ (by omega), show s[i + 1 + j] = 35 from he]; rfl
/-- the texts that impl's parseChunk reads ahead of the last mark -/
def pzI (c : List UInt8) : List UInt8 := (Lib.cut c [47]).1
def pzR (c : List UInt8) : List UInt8 := (Lib.cut c [47]).2.1
def pzT (c : List UInt8) : List UInt8 := (Lib.cut (pzR c) [58]).1
def pzV (c : List UInt8) : List UInt8 := (Lib.cut (pzR c) [58]).2.1
theorem cut_le (x : UInt8) (l : List UInt8) : (Lib.cut l [x]).1.length ≤ l.length ∧ (Lib.cut l [x]).2.1.length ≤ l.length := by
  rcases first_x x l with h | ⟨p, r, h, rfl⟩
  · rw [cut_none h]; simp
  · rw [cut_app h]; simp; omega
theorem pz_reads {s c x : List UInt8} (hs : s = c ++ 35 :: x) (hx : (35 : UInt8) ∉ x) {i n : Int} {d : List UInt8} (h : ReadsC s i n d) :
    parOk (pzI c) = true ∧ parN (pzI c) = i ∧ parOk (pzT c) = true ∧ parN (pzT c) = n ∧ pzV c = d := by
  have hc := h.last hs hx
  have a := h.1
  unfold okK at a
  have h1 : Lib.cut c [47] = (Lib.itoa i, Lib.itoa n ++ 58 :: d, true) := by rw [hc, con_has]; exact cut_app (itoa_no (by omega) (by decide))
  have h2 : Lib.cut (Lib.itoa n ++ 58 :: d) [58] = (Lib.itoa n, d, true) := cut_app (no58 (by omega))
  have e1 := par_itoa (n := i) (by omega) (by omega)
  have e2 := par_itoa (n := n) (by omega) (by omega)
  unfold pzT pzV pzI pzR
  rw [h1]
  simp only
  rw [h2]
  exact ⟨e1.1, e1.2, e2.1, e2.2, rfl⟩
/-- how impl decides -/
theorem pz_dec {s c x : List UInt8} (hs : s = c ++ 35 :: x) (hx : (35 : UInt8) ∉ x) :
    (parOk (pzI c) = true → parOk (pzT c) = true → ReadsC s (parN (pzI c)) (parN (pzT c)) (pzV c) → readC s = (parN (pzI c), parN (pzT c), pzV c, true)) ∧
    (¬ (parOk (pzI c) = true ∧ parOk (pzT c) = true ∧ ReadsC s (parN (pzI c)) (parN (pzT c)) (pzV c)) → readC s = (0, 0, [], false)) := by
  refine ⟨fun _ _ h => readC_yes h, fun h => readC_no fun i n d hr => h ?_⟩
  obtain ⟨h1, h2, h3, h4, h5⟩ := pz_reads hs hx hr
  exact ⟨h1, h3, by rw [h2, h4, h5]; exact hr⟩
noncomputable abbrev rdP (s : List UInt8) : Value := .tuple #[.agg #[.int .i64 (readC s).1, .int .i64 (readC s).2.1, str (readC s).2.2.1], .bool (readC s).2.2.2]
set_option maxRecDepth 100000 in
theorem implValid (i n : Int) (d : List UInt8) (w : World) :
    Calls Tryz.prog 89 #[.agg #[.int .i64 i, .int .i64 n, str d]] w fun e w' => e = .returned (.bool (decide (okK i n d))) ∧ Below w.heap.size w w' := by
  have hB : Below w.heap.size w (w.alloc (.cells #[.int .i64 i, .int .i64 n, str d] 75)) := (Below.refl _ _).alloc (Nat.le_refl _) _
  have HB := Lib.hid hB
  clear hB
  by_cases e1 : 0 ≤ i
  · have g1 : decide (i ≥ 0) = true := decide_eq_true e1
    by_cases e2 : i < n
    · have g2 : decide (i < n) = true := decide_eq_true e2
      by_cases e3 : n ≤ 40
      · have g3 : decide (n ≤ 40) = true := decide_eq_true e3
        by_cases e4 : d = []
        · subst e4
          by_cases e5 : n = 1
          · have HE := Lib.hid (show decide (okK i n []) = true from decide_eq_true ⟨e1, e2, e3, fun _ => e5⟩)
            have g5 : (n == 1) = true := by rw [beq_iff_eq]; exact e5
            clear e5 e1 e2 e3
            go_enter Tryz.func89, Tryz.ntmps89
            go_wp2_with fail
            go_ret
            exact ⟨by rw [HE.out]; rfl, HB.out⟩
          · have HE := Lib.hid (show decide (okK i n []) = false from decide_eq_false (fun h => e5 (h.2.2.2 rfl)))
            have g5 : (n == 1) = false := by rw [beq_eq_false_iff_ne]; exact e5
            clear e5 e1 e2 e3
            go_enter Tryz.func89, Tryz.ntmps89
            go_wp2_with fail
            go_ret
            exact ⟨by rw [HE.out]; rfl, HB.out⟩
        · have HE := Lib.hid (show decide (okK i n d) = true from decide_eq_true ⟨e1, e2, e3, fun h => absurd h e4⟩)
          have g4 : d.isEmpty = false := by cases d with
            | nil => exact absurd rfl e4
            | cons _ _ => rfl
          clear e4 e1 e2 e3
          go_enter Tryz.func89, Tryz.ntmps89
          go_wp2_with fail
          go_ret
          exact ⟨by rw [HE.out]; rfl, HB.out⟩
      · have HE := Lib.hid (show decide (okK i n d) = false from decide_eq_false (fun h => e3 h.2.2.1))
        have g3 : decide (n ≤ 40) = false := decide_eq_false e3
        clear e1 e2 e3
        go_enter Tryz.func89, Tryz.ntmps89
        go_wp2_with fail
        go_ret
        exact ⟨by rw [HE.out]; rfl, HB.out⟩
    · have HE := Lib.hid (show decide (okK i n d) = false from decide_eq_false (fun h => e2 h.2.1))
      have g2 : decide (i < n) = false := decide_eq_false e2
      clear e1 e2
      go_enter Tryz.func89, Tryz.ntmps89
      go_wp2_with fail
      go_ret
      exact ⟨by rw [HE.out]; rfl, HB.out⟩
  · have HE := Lib.hid (show decide (okK i n d) = false from decide_eq_false (fun h => e1 h.1))
    have g1 : decide (i ≥ 0) = false := decide_eq_false e1
    clear e1
    go_enter Tryz.func89, Tryz.ntmps89
    go_wp2_with fail
    go_ret
    exact ⟨by rw [HE.out]; rfl, HB.out⟩
theorem cutAt (b : List UInt8) (x : UInt8) (w : World) (h : b.length ≤ 1048576) (hM : Mx w) :
    Calls Tryz.prog 88 #[str b, .string ⟨#[x]⟩] w fun e w' => e = .returned (.tuple #[str (Lib.cut b [x]).1, str (Lib.cut b [x]).2.1, .bool (Lib.cut b [x]).2.2]) ∧ Below w.heap.size w w' := by
  obtain ⟨m, hm⟩ := hM
  refine (Tryz.strings_Cut ⟨b.toArray⟩ ⟨#[x]⟩ m w (by rw [size_mk]; omega) hm).mono ?_
  rintro e w' ⟨rfl, n, rfl⟩
  exact ⟨rfl, below_drewN (Below.refl _ _) _⟩
set_option maxRecDepth 100000 in
set_option maxHeartbeats 8000000 in
theorem implParseChunk (s : ByteArray) (w : World) (hs : s.size ≤ 1048576) (hT : Tab w) (hM : Mx w) :
    Calls Tryz.prog 50 #[.string s] w fun e w' => e = .returned (rdP s.data.toList) ∧ Below w.heap.size w w' := by
  obtain ⟨W, hW⟩ : ∃ W, W = w.alloc (.cells #[.int .i64 0, .int .i64 0, .string ⟨#[]⟩] 75) := ⟨_, rfl⟩
  have hB : Below w.heap.size w W := by rw [hW]; exact (Below.refl _ _).alloc (Nat.le_refl _) _
  have HR := Lib.hid (show BoxC W w.heap.size 75 #[.int .i64 0, .int .i64 0, .string ⟨#[]⟩] by rw [hW]; exact BoxC.new _ _ _)
  have JL : Hid (Calls Tryz.prog 87 #[.string s, .string ⟨#[35]⟩] W fun e w' => e = .returned (.int .i64 (Lib.lastIndexByte s 35)) ∧ W = w') := Lib.hid ((Tryz.strings_LastIndex_one s ⟨#[35]⟩ rfl (by omega) W).mono fun e w' ⟨he, hw⟩ => ⟨he, hw.symm⟩)
  have HB := Lib.hid hB
  have HW := Lib.hid hW
  have HT := Lib.hid hT
  have HM := Lib.hid hM
  have hsl := toL_len s
  clear hB hW hT hM
  rcases last35 s with ⟨hl, hno⟩ | ⟨k, hk, hl, hsp, hx⟩
  · rw [hl] at JL
    have HF := Lib.hid (readC_no (s := s.data.toList) fun i n d hr => hno (by rw [hr.form]; simp))
    clear hl hno
    go_enter Tryz.func50, Tryz.ntmps50
    go_wp2_with fail
    rw [← HW.out]
    refine JL.out.mono ?_
    rintro e w1 ⟨rfl, rfl⟩
    have r0 := HR.out.c 0 rfl
    have r1 := HR.out.c 1 rfl
    have r2 := HR.out.c 2 rfl
    have f0 := HR.out.f 0
    have f1 := HR.out.f 1
    have f2 := HR.out.f 2
    go_wp2_with fail
    refine bodyPost_ret (v := .tuple #[.agg #[.int .i64 0, .int .i64 0, str []], .bool false]) (by simp [results, Tryz.results50, go_sem, r0, r1, r2]) rfl ?_
    exact ⟨by unfold rdP; rw [HF.out], ((HB.out.setCell (p := ⟨w.heap.size, 0, none⟩) (Nat.le_refl _) _).setCell (p := ⟨w.heap.size, 1, none⟩) (Nat.le_refl _) _).setCell (p := ⟨w.heap.size, 2, none⟩) (Nat.le_refl _) _⟩
  · rw [hl] at JL
    have hcl : (s.data.toList.take k).length ≤ 1048576 := by rw [List.length_take, hsl]; omega
    have HD := Lib.hid (pz_dec hsp hx)
    have HX := Lib.hid (show Value.string (s.extract 0 k) = str (s.data.toList.take k) from ext_mk (by rw [extL]; simp))
    have l1 := cut_le 47 (s.data.toList.take k)
    have l2 := cut_le 58 (pzR (s.data.toList.take k))
    have lR : (pzR (s.data.toList.take k)).length ≤ 1048576 := by unfold pzR; omega
    have hVl : (pzV (s.data.toList.take k)).length ≤ 1048576 := by unfold pzV; omega
    have hTl : (pzT (s.data.toList.take k)).length ≤ 1048576 := by unfold pzT; omega
    have hIl : (pzI (s.data.toList.take k)).length ≤ 1048576 := by unfold pzI; omega
    have jc1 := fun W' (h : Mx W') => cutAt (s.data.toList.take k) 47 W' hcl h
    have jc2 := fun W' (h : Mx W') => cutAt (pzR (s.data.toList.take k)) 58 W' lR h
    rw [show (Lib.cut (s.data.toList.take k) [47]).1 = pzI (s.data.toList.take k) from rfl, show (Lib.cut (s.data.toList.take k) [47]).2.1 = pzR (s.data.toList.take k) from rfl] at jc1
    rw [show (Lib.cut (pzR (s.data.toList.take k)) [58]).1 = pzT (s.data.toList.take k) from rfl, show (Lib.cut (pzR (s.data.toList.take k)) [58]).2.1 = pzV (s.data.toList.take k) from rfl] at jc2
    generalize (Lib.cut (s.data.toList.take k) [47]).2.2 = q1 at jc1
    generalize (Lib.cut (pzR (s.data.toList.take k)) [58]).2.2 = q2 at jc2
    generalize pzI (s.data.toList.take k) = tI at *
    generalize pzR (s.data.toList.take k) = tR at *
    generalize pzT (s.data.toList.take k) = tT at *
    generalize pzV (s.data.toList.take k) = tV at *
    generalize s.data.toList.take k = c at *
    have JC1 := Lib.hid jc1
    have JC2 := Lib.hid jc2
    clear hl hsp hx l1 l2 jc1 jc2 hcl
    go_enter Tryz.func50, Tryz.ntmps50
    go_wp2_with fail
    rw [← HW.out]
    refine JL.out.mono ?_
    rintro e w1 ⟨rfl, rfl⟩
    go_wp2_with fail
    rw [HX.out]
    refine (JC1.out _ (HM.out.below HB.out)).mono ?_
    rintro e w1 ⟨rfl, hb⟩
    replace HR := Lib.hid (HR.out.later hb)
    replace HB := Lib.hid (HB.out.trans (hb.mono HB.out.size))
    clear hb HX JC1
    go_wp2_with fail
    refine (JC2.out _ (HM.out.below HB.out)).mono ?_
    rintro e w2 ⟨rfl, hb⟩
    replace HR := Lib.hid (HR.out.later hb)
    replace HB := Lib.hid (HB.out.trans (hb.mono HB.out.size))
    clear hb JC2
    go_wp2_with fail
    have hbA := (Below.refl w2.heap.size w2).alloc (Nat.le_refl _) (.cells #[str tI, str tT] 9)
    have hat : AtP (w2.alloc (.cells #[str tI, str tT] 9)) (some ⟨w2.heap.size, 0, none⟩) [tI, tT] := fun j hj => by
      refine ⟨_, rfl, by simp, ?_⟩
      have hadd : (⟨w2.heap.size, 0, none⟩ : Addr).add j = ⟨w2.heap.size, j, none⟩ := by unfold Addr.add; split <;> simp_all
      rw [hadd, World.cell?_alloc_at _ _ _ _ rfl]
      match j, hj with
      | 0, _ => rfl
      | 1, _ => rfl
    replace HR := Lib.hid (HR.out.later hbA)
    replace HB := Lib.hid (HB.out.trans (hbA.mono HB.out.size))
    refine (parseInts _ 2 2 [tI, tT] _ rfl (by omega) (fun j => by match j with
      | 0 => exact hIl
      | 1 => exact hTl
      | (n + 2) => simp) hat (HT.out.below HB.out)).mono ?_
    rintro e w3 ⟨v, rfl, ho, hb⟩
    replace HR := Lib.hid (HR.out.later hb)
    replace HB := Lib.hid (HB.out.trans (hb.mono HB.out.size))
    clear hb hat hbA
    have hall : allPar [tI, tT] = (parOk tI && parOk tT) := by simp [allPar]
    rw [hall]
    by_cases hp : parOk tI = true ∧ parOk tT = true
    · have hnum : numsOf [tI, tT] = [parN tI, parN tT] := by unfold numsOf; rw [hall, hp.1, hp.2]; rfl
      rw [hp.1, hp.2]
      rw [hnum] at ho
      have HPP := Lib.hid hp
      obtain ⟨g, cp, rfl, hc2, hcm, hg, hc0, hc1⟩ := ho.two
      have hw0 : (0 : Int) < 2 := by omega
      clear hp hnum hall ho
      go_upto_region 9 with (fail)
      go_cut [13] (fun b wx => ∃ p : Nat, b = .pointer (some ⟨p, 0, none⟩) ∧ BoxC wx p 75 #[.int .i64 (parN tI), .int .i64 (parN tT), str tV] ∧ w3.heap.size ≤ p ∧ Below w3.heap.size w3 wx)
      case first =>
        refine region_inv (m := 9) [43, 44, 45, 46, 47, 48, 49, 50, 13] [] (Fs [isV (.slice (some ⟨g, 0, none⟩) 2 cp), isV (.pointer (some ⟨g, 0, none⟩)), isV (.int .i64 (parN tI)), isV (.slice (some ⟨g, 0, none⟩) 2 cp), isV (.pointer (some ⟨g, 1, none⟩)), isV (.int .i64 (parN tT)), isV (str tV), isV (.agg #[.int .i64 (parN tI), .int .i64 (parN tT), str tV]), isC w3.heap.size 75 #[.int .i64 0, .int .i64 0, .string ⟨#[]⟩]]) (by kernel_rfl) (by decide) rfl (by decide) (by kernel_rfl) (by kernel_rfl) (by kernel_rfl) (fun _ _ _ _ _ h => h) (Fs_mono ⟨isV_mono _, isV_mono _, isV_mono _, isV_mono _, isV_mono _, isV_mono _, isV_mono _, isV_mono _, isC_mono _ _ _, trivial⟩) ?step ?float ?tail
        case float =>
          intro f hf
          cases hf
        case step =>
          intro i hi vs wq hBq hd
          rcases (show i = 0 ∨ i = 1 ∨ i = 2 ∨ i = 3 ∨ i = 4 ∨ i = 5 ∨ i = 6 ∨ i = 7 ∨ i = 8 from by omega) with rfl | rfl | rfl | rfl | rfl | rfl | rfl | rfl | rfl
          · refine wpOp_step (o := _) rfl (fun K' hK => ?_)
            have HK := Lib.hid hK
            clear hK
            simp only [lay, Act.put, List.setIfInBounds_toArray, List.set_cons_zero, List.set_cons_succ, List.getD_cons_zero, List.getD_cons_succ, id_eq]
            go_simp
            refine HK.out _ _ ⟨_, ?_, Below.refl _ _, rfl⟩
            simp only [lay, Act.put, List.setIfInBounds_toArray, List.set_cons_zero, List.set_cons_succ, List.getD_cons_zero, List.getD_cons_succ, id_eq]
          · have e0 : vs 0 = .slice (some ⟨g, 0, none⟩) 2 cp := hd 0 (List.contains_iff_mem.1 (by kernel_rfl))
            refine wpOp_step (o := _) rfl (fun K' hK => ?_)
            have HK := Lib.hid hK
            clear hK
            simp only [lay, Act.put, List.setIfInBounds_toArray, List.set_cons_zero, List.set_cons_succ, List.getD_cons_zero, List.getD_cons_succ, id_eq]
            rw [e0]
            go_simp
            refine HK.out _ _ ⟨_, ?_, Below.refl _ _, rfl⟩
            simp only [lay, Act.put, List.setIfInBounds_toArray, List.set_cons_zero, List.set_cons_succ, List.getD_cons_zero, List.getD_cons_succ, id_eq]
            rw [e0]
          · have e1 : vs 1 = .pointer (some ⟨g, 0, none⟩) := hd 1 (List.contains_iff_mem.1 (by kernel_rfl))
            have z0 := (hBq.cell (p := ⟨g, 0, none⟩) hg).trans hc0
            refine wpOp_step (o := _) rfl (fun K' hK => ?_)
            have HK := Lib.hid hK
            clear hK
            simp only [lay, Act.put, List.setIfInBounds_toArray, List.set_cons_zero, List.set_cons_succ, List.getD_cons_zero, List.getD_cons_succ, id_eq]
            rw [e1]
            go_simp
            refine HK.out _ _ ⟨_, ?_, Below.refl _ _, rfl⟩
            simp only [lay, Act.put, List.setIfInBounds_toArray, List.set_cons_zero, List.set_cons_succ, List.getD_cons_zero, List.getD_cons_succ, id_eq]
            rw [e1]
          · refine wpOp_step (o := _) rfl (fun K' hK => ?_)
            have HK := Lib.hid hK
            clear hK
            simp only [lay, Act.put, List.setIfInBounds_toArray, List.set_cons_zero, List.set_cons_succ, List.getD_cons_zero, List.getD_cons_succ, id_eq]
            go_simp
            refine HK.out _ _ ⟨_, ?_, Below.refl _ _, rfl⟩
            simp only [lay, Act.put, List.setIfInBounds_toArray, List.set_cons_zero, List.set_cons_succ, List.getD_cons_zero, List.getD_cons_succ, id_eq]
          · have e3 : vs 3 = .slice (some ⟨g, 0, none⟩) 2 cp := hd 3 (List.contains_iff_mem.1 (by kernel_rfl))
            refine wpOp_step (o := _) rfl (fun K' hK => ?_)
            have HK := Lib.hid hK
            clear hK
            simp only [lay, Act.put, List.setIfInBounds_toArray, List.set_cons_zero, List.set_cons_succ, List.getD_cons_zero, List.getD_cons_succ, id_eq]
            rw [e3]
            go_simp
            refine HK.out _ _ ⟨_, ?_, Below.refl _ _, rfl⟩
            simp only [lay, Act.put, List.setIfInBounds_toArray, List.set_cons_zero, List.set_cons_succ, List.getD_cons_zero, List.getD_cons_succ, id_eq]
            rw [e3]
          · have e4 : vs 4 = .pointer (some ⟨g, 1, none⟩) := hd 4 (List.contains_iff_mem.1 (by kernel_rfl))
            have z1 := (hBq.cell (p := ⟨g, 1, none⟩) hg).trans hc1
            refine wpOp_step (o := _) rfl (fun K' hK => ?_)
            have HK := Lib.hid hK
            clear hK
            simp only [lay, Act.put, List.setIfInBounds_toArray, List.set_cons_zero, List.set_cons_succ, List.getD_cons_zero, List.getD_cons_succ, id_eq]
            rw [e4]
            go_simp
            refine HK.out _ _ ⟨_, ?_, Below.refl _ _, rfl⟩
            simp only [lay, Act.put, List.setIfInBounds_toArray, List.set_cons_zero, List.set_cons_succ, List.getD_cons_zero, List.getD_cons_succ, id_eq]
            rw [e4]
          · refine wpOp_step (o := _) rfl (fun K' hK => ?_)
            have HK := Lib.hid hK
            clear hK
            simp only [lay, Act.put, List.setIfInBounds_toArray, List.set_cons_zero, List.set_cons_succ, List.getD_cons_zero, List.getD_cons_succ, id_eq]
            go_simp
            refine HK.out _ _ ⟨_, ?_, Below.refl _ _, rfl⟩
            simp only [lay, Act.put, List.setIfInBounds_toArray, List.set_cons_zero, List.set_cons_succ, List.getD_cons_zero, List.getD_cons_succ, id_eq]
          · have e2 : vs 2 = .int .i64 (parN tI) := hd 2 (List.contains_iff_mem.1 (by kernel_rfl))
            have e5 : vs 5 = .int .i64 (parN tT) := hd 5 (List.contains_iff_mem.1 (by kernel_rfl))
            have e6 : vs 6 = str tV := hd 6 (List.contains_iff_mem.1 (by kernel_rfl))
            refine wpOp_step (o := _) rfl (fun K' hK => ?_)
            have HK := Lib.hid hK
            clear hK
            simp only [lay, Act.put, List.setIfInBounds_toArray, List.set_cons_zero, List.set_cons_succ, List.getD_cons_zero, List.getD_cons_succ, id_eq]
            rw [e2, e5, e6]
            go_simp
            refine HK.out _ _ ⟨_, ?_, Below.refl _ _, rfl⟩
            simp only [lay, Act.put, List.setIfInBounds_toArray, List.set_cons_zero, List.set_cons_succ, List.getD_cons_zero, List.getD_cons_succ, id_eq]
            rw [e2, e5, e6]
          · refine wpOp_step (o := _) rfl (fun K' hK => ?_)
            have HK := Lib.hid hK
            clear hK
            simp only [lay, Act.put, List.setIfInBounds_toArray, List.set_cons_zero, List.set_cons_succ, List.getD_cons_zero, List.getD_cons_succ, id_eq]
            go_simp
            refine HK.out _ _ ⟨_, ?_, (Below.refl _ _).alloc (Nat.le_refl _) _, _, rfl, BoxC.new _ _ _, hBq.size⟩
            simp only [lay, Act.put, List.setIfInBounds_toArray, List.set_cons_zero, List.set_cons_succ, List.getD_cons_zero, List.getD_cons_succ, id_eq]
        case tail =>
          intro vs wq hBq hf
          have e7 : vs 7 = .agg #[.int .i64 (parN tI), .int .i64 (parN tT), str tV] := hf 7 (by decide)
          obtain ⟨p, e8, b8, n8⟩ : isC w3.heap.size 75 #[.int .i64 0, .int .i64 0, .string ⟨#[]⟩] (vs 8) wq := hf 8 (by decide)
          simp only [lay, Act.put, List.setIfInBounds_toArray, List.set_cons_zero, List.set_cons_succ, List.getD_cons_zero, List.getD_cons_succ, id_eq]
          rw [e7, e8]
          clear e7 e8
          refine any_all (rs := [9]) (by kernel_rfl) (by simp) ?_
          intro i hi
          simp only [List.mem_cons, List.not_mem_nil, or_false] at hi
          subst hi
          refine wpOp_step (o := _) rfl (fun K' hK => ?_)
          have HK := Lib.hid hK
          clear hK
          have kc0 := b8.c 0 rfl
          have kf0 := b8.f 0
          have kc1 := b8.c 1 rfl
          have kf1 := b8.f 1
          have kc2 := b8.c 2 rfl
          have kf2 := b8.f 2
          go_simp
          refine HK.out _ _ ?_
          clear HK K' kc0 kf0 kc1 kf1 kc2 kf2
          try simp only [Act.put, List.setIfInBounds_toArray, List.set_cons_zero, List.set_cons_succ]
          have b9 := ((b8.put 0 (.int .i64 (parN tI))).put 1 (.int .i64 (parN tT))).put 2 (str tV)
          have hB9 := ((hBq.setCell (p := ⟨p, 0, none⟩) n8 (.int .i64 (parN tI))).setCell (p := ⟨p, 1, none⟩) n8 (.int .i64 (parN tT))).setCell (p := ⟨p, 2, none⟩) n8 (str tV)
          refine any_done (by kernel_rfl) ?_ _
          go_wp2_with fail
          go_meet
          exact ⟨p, rfl, b9, n8, hB9⟩
      case rest =>
        obtain ⟨p, rfl, bp, hp3, hb9⟩ := hcut
        replace HR := Lib.hid (HR.out.later hb9)
        replace HB := Lib.hid (HB.out.trans (hb9.mono HB.out.size))
        have HP := Lib.hid bp
        have p0 := bp.c 0 rfl
        have p1 := bp.c 1 rfl
        have p2 := bp.c 2 rfl
        have JV := Lib.hid (fun W' => implValid (parN tI) (parN tT) tV W')
        have hpn := Nat.ne_of_lt HR.out.lt
        clear hb9 bp hc0 hc1
        go_wp2_with fail
        refine (JV.out _).mono ?_
        rintro e w4 ⟨rfl, hb⟩
        replace HR := Lib.hid (HR.out.later hb)
        replace HP := Lib.hid (HP.out.later hb)
        replace HB := Lib.hid (HB.out.trans (hb.mono HB.out.size))
        clear hb JV p0 p1 p2
        by_cases hok : okK (parN tI) (parN tT) tV
        · rw [decide_eq_true hok]
          have HOK := Lib.hid hok
          unfold okK at hok
          have jc := implChunk (parN tI) (parN tT) ⟨tV.toArray⟩ w4 (by omega) (by omega) (by omega) (by omega) (by rw [mk_size]; exact hVl) (HT.out.below HB.out)
          have p0 := HP.out.c 0 rfl
          have p1 := HP.out.c 1 rfl
          have p2 := HP.out.c 2 rfl
          have JC := Lib.hid jc
          clear jc hok
          go_wp2_with fail
          refine JC.out.mono ?_
          rintro e w5 ⟨rfl, hb⟩
          replace HR := Lib.hid (HR.out.later hb)
          replace HP := Lib.hid (HP.out.later hb)
          replace HB := Lib.hid (HB.out.trans (hb.mono HB.out.size))
          clear hb JC p0 p1 p2
          have r0 := HR.out.c 0 rfl
          have r1 := HR.out.c 1 rfl
          have r2 := HR.out.c 2 rfl
          have f0 := HR.out.f 0
          have f1 := HR.out.f 1
          have f2 := HR.out.f 2
          by_cases hc : chunkL (parN tI) (parN tT) tV = s.data.toList
          · have t4 : (chunkL (parN tI) (parN tT) tV == s.toList) = true := by rw [beq_iff_eq, ByteArray.toList_eq]; exact hc
            have HF := Lib.hid (HD.out.1 HPP.out.1 HPP.out.2 ⟨HOK.out, hc⟩)
            have p0 := HP.out.c 0 rfl
            have p1 := HP.out.c 1 rfl
            have p2 := HP.out.c 2 rfl
            clear hc
            go_wp2_with fail
            refine bodyPost_ret (v := .tuple #[.agg #[.int .i64 (parN tI), .int .i64 (parN tT), str tV], .bool true]) (by simp [results, Tryz.results50, go_sem, r0, r1, r2]) rfl ?_
            exact ⟨by unfold rdP; rw [HF.out], ((HB.out.setCell (p := ⟨w.heap.size, 0, none⟩) (Nat.le_refl _) _).setCell (p := ⟨w.heap.size, 1, none⟩) (Nat.le_refl _) _).setCell (p := ⟨w.heap.size, 2, none⟩) (Nat.le_refl _) _⟩
          · have t4 : (chunkL (parN tI) (parN tT) tV == s.toList) = false := by rw [beq_eq_false_iff_ne, ByteArray.toList_eq]; exact hc
            have HF := Lib.hid (HD.out.2 (fun h => hc h.2.2.2))
            clear hc
            go_wp2_with fail
            refine bodyPost_ret (v := .tuple #[.agg #[.int .i64 0, .int .i64 0, str []], .bool false]) (by simp [results, Tryz.results50, go_sem, r0, r1, r2]) rfl ?_
            exact ⟨by unfold rdP; rw [HF.out], ((HB.out.setCell (p := ⟨w.heap.size, 0, none⟩) (Nat.le_refl _) _).setCell (p := ⟨w.heap.size, 1, none⟩) (Nat.le_refl _) _).setCell (p := ⟨w.heap.size, 2, none⟩) (Nat.le_refl _) _⟩
        · rw [decide_eq_false hok]
          have HF := Lib.hid (HD.out.2 (fun h => hok h.2.2.1))
          clear hok
          have r0 := HR.out.c 0 rfl
          have r1 := HR.out.c 1 rfl
          have r2 := HR.out.c 2 rfl
          have f0 := HR.out.f 0
          have f1 := HR.out.f 1
          have f2 := HR.out.f 2
          go_wp2_with fail
          refine bodyPost_ret (v := .tuple #[.agg #[.int .i64 0, .int .i64 0, str []], .bool false]) (by simp [results, Tryz.results50, go_sem, r0, r1, r2]) rfl ?_
          exact ⟨by unfold rdP; rw [HF.out], ((HB.out.setCell (p := ⟨w.heap.size, 0, none⟩) (Nat.le_refl _) _).setCell (p := ⟨w.heap.size, 1, none⟩) (Nat.le_refl _) _).setCell (p := ⟨w.heap.size, 2, none⟩) (Nat.le_refl _) _⟩
    · have hpb : (parOk tI && parOk tT) = false := by
        cases h1 : parOk tI <;> cases h2 : parOk tT <;> simp_all
      have HF := Lib.hid (HD.out.2 (fun h => hp ⟨h.1, h.2.1⟩))
      rw [hpb]
      obtain ⟨y, q, rfl⟩ := ho.shape
      clear hp hpb hall ho
      have r0 := HR.out.c 0 rfl
      have r1 := HR.out.c 1 rfl
      have r2 := HR.out.c 2 rfl
      have f0 := HR.out.f 0
      have f1 := HR.out.f 1
      have f2 := HR.out.f 2
      go_wp2_with fail
      refine bodyPost_ret (v := .tuple #[.agg #[.int .i64 0, .int .i64 0, str []], .bool false]) (by simp [results, Tryz.results50, go_sem, r0, r1, r2]) rfl ?_
      exact ⟨by unfold rdP; rw [HF.out], ((HB.out.setCell (p := ⟨w.heap.size, 0, none⟩) (Nat.le_refl _) _).setCell (p := ⟨w.heap.size, 1, none⟩) (Nat.le_refl _) _).setCell (p := ⟨w.heap.size, 2, none⟩) (Nat.le_refl _) _⟩
end Go.Proofs.YtpdpejlcilnafaaGreatDoor.kit
namespace Go.Proofs.YtpdpejlcilnafaaGreatDoor.kit
open Go.ChangeShapes Go.WideShapes Go.ChangeAt Go.RowKit
set_option linter.unusedVariables false
set_option linter.unusedSimpArgs false

theorem rd_len (s : List UInt8) : (readC s).2.2.1.length ≤ s.length := by
  rcases readC_cases s with ⟨h, _⟩ | ⟨i, n, d, hr, h⟩
  · rw [h]; simp
  · rw [h]
    have := congrArg List.length hr.form
    simp at this
    simp only
    omega
noncomputable def rdAt (L : List ByteArray) (j : Nat) : Int × Int × List UInt8 × Bool := readC (L.getD j .empty).data.toList
def jOk (L : List ByteArray) (t : Int) (k : Nat) : Prop := ∀ j, j < k → (rdAt L j).2.2.2 = true ∧ (rdAt L j).1 = (j : Int) ∧ (rdAt L j).2.1 = t
/-- the data of the first k chunks -/
noncomputable def jDat (L : List ByteArray) : Nat → List UInt8
  | 0 => []
  | k + 1 => jDat L k ++ (rdAt L k).2.2.1
theorem jDat_len (L : List ByteArray) : ∀ k, (jDat L k).length ≤ sumW L k
  | 0 => Nat.le_refl _
  | k + 1 => by
    have := jDat_len L k
    have h := rd_len (L.getD k .empty).data.toList
    rw [toL_len] at h
    show (jDat L k ++ (rdAt L k).2.2.1).length ≤ sumW L k + (L.getD k .empty).size
    rw [List.length_append]
    unfold rdAt
    omega
noncomputable def joinOk (L : List ByteArray) (t : Int) : Bool := open Classical in decide (jOk L t L.length ∧ (L.length : Int) = t ∧ 1 ≤ t)
noncomputable def joinS (L : List ByteArray) (t : Int) : List UInt8 := if joinOk L t = true then jDat L L.length else []
theorem join_no {L : List ByteArray} {t : Int} (h : ¬ (jOk L t L.length ∧ (L.length : Int) = t ∧ 1 ≤ t)) : joinOk L t = false ∧ joinS L t = [] := by
  have e : joinOk L t = false := by unfold joinOk; simp only [decide_eq_false_iff_not]; exact h
  exact ⟨e, by unfold joinS; rw [e]; rfl⟩
theorem join_yes {L : List ByteArray} {t : Int} (h : jOk L t L.length ∧ (L.length : Int) = t ∧ 1 ≤ t) : joinOk L t = true ∧ joinS L t = jDat L L.length := by
  have e : joinOk L t = true := by unfold joinOk; simp only [decide_eq_true_eq]; exact h
  exact ⟨e, by unfold joinS; rw [e]; rfl⟩
theorem join_bad {L : List ByteArray} {t : Int} {k : Nat} (h : k < L.length) (hk : ¬ ((rdAt L k).2.2.2 = true ∧ (rdAt L k).1 = (k : Int) ∧ (rdAt L k).2.1 = t)) : joinOk L t = false ∧ joinS L t = [] := join_no (fun hh => hk (hh.1 k h))
theorem jOk_succ {L : List ByteArray} {t : Int} {k : Nat} (h : jOk L t k) (hk : (rdAt L k).2.2.2 = true ∧ (rdAt L k).1 = (k : Int) ∧ (rdAt L k).2.1 = t) : jOk L t (k + 1) := fun j hj => by
  by_cases e : j = k
  · rw [e]; exact hk
  · exact h j (by omega)
set_option maxRecDepth 100000 in
set_option maxHeartbeats 4000000 in
theorem specJoinChunks (b : Nat) (v : Value) (l : List ByteArray) (t : Int) (w : World) (h : l.length ≤ 4194304) (hs : sumW l l.length ≤ 1048576) (o : OwnW b w v l) :
    Calls Tryz.prog 24 #[v, .int .i64 t] w fun e w' => e = .returned (.tuple #[.string ⟨(joinS l t).toArray⟩, .bool (joinOk l t)]) ∧ Below w.heap.size w w' := by
  obtain ⟨a, c, rfl, _, _, ha, _⟩ := o.form
  have HA := Lib.hid ha
  clear o ha
  go_enter Tryz.func24, Tryz.ntmps24
  go_wp2_with fail
  go_loopw [6, 7] (fun s i wr => ∃ k : Nat, k ≤ l.length ∧ i = .int .i64 k ∧ s = str (jDat l k) ∧ Hid (jOk l t k) ∧ Hid (Below w.heap.size w wr)) (fun _ i _ => l.length - (intOf i).toNat)
  case atStart => exact ⟨0, Nat.zero_le _, rfl, rfl, Lib.hid (fun j hj => by omega), Lib.hid (Below.refl _ _)⟩
  case round =>
    obtain ⟨k, hk, rfl, rfl, HJ, HB⟩ := hrel
    by_cases hlt : k < l.length
    · obtain ⟨x, rfl, hx, hc⟩ := (HA.out.later HB.out) k hlt
      have hsz := sumW_at l hlt
      have hjl := jDat_len l k
      have hmo := sumW_mono l (show k + 1 ≤ l.length from hlt)
      have hsu : sumW l (k + 1) = sumW l k + (l.getD k .empty).size := rfl
      have hrl := rd_len (l.getD k .empty).data.toList
      have J := Lib.hid (specRead (l.getD k .empty) wr (by omega))
      have HX := Lib.hid (show jDat l (k + 1) = jDat l k ++ (rdAt l k).2.2.1 from rfl)
      have HBAD := Lib.hid (fun hk => join_bad (t := t) hlt hk)
      have HSUC := Lib.hid (fun hk => jOk_succ HJ.out hk)
      rw [toL_len] at hrl
      obtain ⟨ra, rb, rd, rk, hr⟩ : ∃ ra rb rd rk, rdAt l k = (ra, rb, rd, rk) := ⟨_, _, _, _, rfl⟩
      have hr' : readC (l.getD k .empty).data.toList = (ra, rb, rd, rk) := hr
      rw [hr] at HX HBAD HSUC
      unfold rdT at J
      rw [hr'] at J hrl
      simp only at J HX HBAD HSUC hrl
      have hll : ¬ (9223372036854775807 < (jDat l k).length + rd.length) := by omega
      clear hr hr' hsz hjl hmo hsu hrl
      generalize l.getD k .empty = y at *
      generalize jDat l k = dk at *
      have k3 : (0 : Int) ≤ (k : Int) := by omega
      have k5 : (k : Int) < (l.length : Int) := by omega
      go_wp2_with fail
      refine J.out.mono ?_
      rintro e w1 ⟨rfl, hb⟩
      have HB1 := Lib.hid (HB.out.trans (hb.mono HB.out.size))
      clear hb J
      by_cases hq : rk = true ∧ ra = (k : Int) ∧ rb = t
      · obtain ⟨rfl, rfl, rfl⟩ := hq
        have t1 : ((k : Int) != (k : Int)) = false := by simp
        have t2 : (rb != rb) = false := by simp
        go_wp2_with fail
        go_roundw
        case rel => exact ⟨k + 1, by omega, by go_num, by rw [HX.out]; exact congrArg Value.string (by apply ByteArray.ext; apply Array.ext'; simp), Lib.hid (HSUC.out (by simp)), HB1⟩
        case measure => simp [intOf]; omega
      · have HF := Lib.hid (HBAD.out hq)
        cases rk with
        | false =>
          clear hq
          go_wp2_with fail
          refine bodyPost_ret (v := .tuple #[str [], .bool false]) (by simp [results, Tryz.results24, go_sem]) rfl ?_
          exact ⟨by rw [HF.out.1, HF.out.2], HB1.out⟩
        | true =>
          by_cases h1 : ra = (k : Int)
          · have t1 : (ra != (k : Int)) = false := by rw [h1]; simp
            have t2 : (rb != t) = true := by rw [bne_iff_ne]; exact fun h2 => hq ⟨rfl, h1, h2⟩
            clear hq h1
            go_wp2_with fail
            refine bodyPost_ret (v := .tuple #[str [], .bool false]) (by simp [results, Tryz.results24, go_sem]) rfl ?_
            exact ⟨by rw [HF.out.1, HF.out.2], HB1.out⟩
          · have t1 : (ra != (k : Int)) = true := by rw [bne_iff_ne]; exact h1
            clear hq h1
            go_wp2_with fail
            refine bodyPost_ret (v := .tuple #[str [], .bool false]) (by simp [results, Tryz.results24, go_sem]) rfl ?_
            exact ⟨by rw [HF.out.1, HF.out.2], HB1.out⟩
    · obtain rfl : k = l.length := by omega
      clear hlt hk
      by_cases h1 : (l.length : Int) = t
      · have t1 : ((l.length : Int) != t) = false := by rw [h1]; simp
        by_cases h2 : 1 ≤ t
        · have t2 : decide (t < 1) = false := decide_eq_false (by omega)
          have HF := Lib.hid (join_yes ⟨HJ.out, h1, h2⟩)
          generalize jDat l l.length = dk at *
          clear h1 h2
          go_wp2_with fail
          refine bodyPost_ret (v := .tuple #[str dk, .bool true]) (by simp [results, Tryz.results24, go_sem]) rfl ?_
          exact ⟨by rw [HF.out.1, HF.out.2], HB.out⟩
        · have t2 : decide (t < 1) = true := decide_eq_true (by omega)
          have HF := Lib.hid (join_no (L := l) (t := t) (fun h => h2 h.2.2))
          clear h1 h2
          go_wp2_with fail
          refine bodyPost_ret (v := .tuple #[str [], .bool false]) (by simp [results, Tryz.results24, go_sem]) rfl ?_
          exact ⟨by rw [HF.out.1, HF.out.2], HB.out⟩
      · have t1 : ((l.length : Int) != t) = true := by rw [bne_iff_ne]; exact h1
        have HF := Lib.hid (join_no (L := l) (t := t) (fun h => h1 h.2.1))
        clear h1
        go_wp2_with fail
        refine bodyPost_ret (v := .tuple #[str [], .bool false]) (by simp [results, Tryz.results24, go_sem]) rfl ?_
        exact ⟨by rw [HF.out.1, HF.out.2], HB.out⟩
set_option maxRecDepth 100000 in
set_option maxHeartbeats 4000000 in
theorem implJoinChunks (b : Nat) (v : Value) (l : List ByteArray) (t : Int) (w : World) (h : l.length ≤ 4194304) (hs : sumW l l.length ≤ 1048576) (o : OwnW b w v l) (hT : Tab w) (hM : Mx w) :
    Calls Tryz.prog 18 #[v, .int .i64 t] w fun e w' => e = .returned (.tuple #[.string ⟨(joinS l t).toArray⟩, .bool (joinOk l t)]) ∧ Below w.heap.size w w' := by
  obtain ⟨a, c, rfl, _, _, ha, _⟩ := o.form
  have HA := Lib.hid ha
  have HT := Lib.hid hT
  have HM := Lib.hid hM
  clear o ha hT hM
  by_cases h2 : 1 ≤ t
  · have t2 : decide (t < 1) = false := decide_eq_false (by omega)
    by_cases h1 : (l.length : Int) = t
    · have t1 : ((l.length : Int) != t) = false := by rw [h1]; simp
      have HN := Lib.hid (show Below w.heap.size w (w.alloc (.cells #[.pointer none, .slice none 0 0] 88)) from (Below.refl _ _).alloc (Nat.le_refl _) _)
      have HI := Lib.hid (isB_new w)
      have H1 := Lib.hid h1
      clear h1
      go_enter Tryz.func18, Tryz.ntmps18
      go_wp2_with fail
      go_loopw [21] (fun i wr => ∃ k : Nat, k ≤ l.length ∧ i = .int .i64 k ∧ Hid (IsB w.heap.size w.heap.size (Lib.byteCells (jDat l k)) wr) ∧ Hid (jOk l t k) ∧ Hid (Below w.heap.size w wr)) (fun i _ => l.length - (intOf i).toNat)
      case atStart => exact ⟨0, Nat.zero_le _, rfl, HI, Lib.hid (fun j hj => by omega), HN⟩
      case round =>
        obtain ⟨k, hk, rfl, HI1, HJ, HB⟩ := hrel
        by_cases hlt : k < l.length
        · obtain ⟨x, rfl, hx, hc⟩ := (HA.out.later HB.out) k hlt
          have hsz := sumW_at l hlt
          have hjl := jDat_len l k
          have hmo := sumW_mono l (show k + 1 ≤ l.length from hlt)
          have hsu : sumW l (k + 1) = sumW l k + (l.getD k .empty).size := rfl
          have hrl := rd_len (l.getD k .empty).data.toList
          have J := Lib.hid (implParseChunk (l.getD k .empty) wr (by omega) (HT.out.below HB.out) (HM.out.below HB.out))
          have HX := Lib.hid (show jDat l (k + 1) = jDat l k ++ (rdAt l k).2.2.1 from rfl)
          have HBAD := Lib.hid (fun hk => join_bad (t := t) hlt hk)
          have HSUC := Lib.hid (fun hk => jOk_succ HJ.out hk)
          rw [toL_len] at hrl
          obtain ⟨ra, rb, rd, rk, hr⟩ : ∃ ra rb rd rk, rdAt l k = (ra, rb, rd, rk) := ⟨_, _, _, _, rfl⟩
          have hr' : readC (l.getD k .empty).data.toList = (ra, rb, rd, rk) := hr
          rw [hr] at HX HBAD HSUC
          unfold rdP at J
          rw [hr'] at J hrl
          simp only at J HX HBAD HSUC hrl
          have hll : (jDat l k).length + rd.length ≤ 4000000 := by omega
          clear hr hr' hsz hjl hmo hsu hrl
          generalize l.getD k .empty = y at *
          generalize jDat l k = dk at *
          have k3 : (0 : Int) ≤ (k : Int) := by omega
          have k5 : (k : Int) < (l.length : Int) := by omega
          go_wp2_with fail
          refine J.out.mono ?_
          rintro e w1 ⟨rfl, hb⟩
          have HB1 := Lib.hid (HB.out.trans (hb.mono HB.out.size))
          have HI2 := Lib.hid (IsB.later HI1.out hb)
          clear hb J hc HI1
          have hbA := (Below.refl w1.heap.size w1).alloc (Nat.le_refl _) (.cells #[.int .i64 ra, .int .i64 rb, str rd] 75)
          have HI3 := Lib.hid (IsB.later HI2.out hbA)
          have HB2 := Lib.hid (HB1.out.trans (hbA.mono HB1.out.size))
          clear hbA HI2
          by_cases hq : rk = true ∧ ra = (k : Int) ∧ rb = t
          · obtain ⟨rfl, rfl, rfl⟩ := hq
            have t1 : ((k : Int) != (k : Int)) = false := by simp
            have t3 : (rb != rb) = false := by simp
            go_wp2_with fail
            refine (writeString w.heap.size w.heap.size _ ⟨rd.toArray⟩ _ HI3.out (by rw [byteCells_len]; simp [ByteArray.size]; omega) HB2.out.size).mono ?_
            rintro e w3 ⟨rfl, hI3, hb3⟩
            rw [Lib.strCells_toArray, byteCells_app, ← HX.out] at hI3
            have HI4 := Lib.hid hI3
            have HB3 := Lib.hid (HB2.out.trans hb3)
            clear hI3 hb3
            go_wp2_with fail
            go_roundw
            case rel => exact ⟨k + 1, by omega, by go_num, HI4, Lib.hid (HSUC.out (by simp)), HB3⟩
            case measure => simp [intOf]; omega
          · have HF := Lib.hid (HBAD.out hq)
            cases rk with
            | false =>
              clear hq
              go_wp2_with fail
              refine bodyPost_ret (v := .tuple #[str [], .bool false]) (by simp [results, Tryz.results18, go_sem]) rfl ?_
              exact ⟨by rw [HF.out.1, HF.out.2], HB2.out⟩
            | true =>
              by_cases h1 : ra = (k : Int)
              · have t1 : (ra != (k : Int)) = false := by rw [h1]; simp
                have t3 : (rb != t) = true := by rw [bne_iff_ne]; exact fun h2 => hq ⟨rfl, h1, h2⟩
                clear hq h1
                go_wp2_with fail
                refine bodyPost_ret (v := .tuple #[str [], .bool false]) (by simp [results, Tryz.results18, go_sem]) rfl ?_
                exact ⟨by rw [HF.out.1, HF.out.2], HB2.out⟩
              · have t1 : (ra != (k : Int)) = true := by rw [bne_iff_ne]; exact h1
                clear hq h1
                go_wp2_with fail
                refine bodyPost_ret (v := .tuple #[str [], .bool false]) (by simp [results, Tryz.results18, go_sem]) rfl ?_
                exact ⟨by rw [HF.out.1, HF.out.2], HB2.out⟩
        · obtain rfl : k = l.length := by omega
          clear hlt hk
          have HF := Lib.hid (join_yes ⟨HJ.out, H1.out, h2⟩)
          have hsz := HB.out.size
          generalize jDat l l.length = dk at *
          go_wp2_with fail
          refine (Tryz.Builder_String_any w.heap.size w.heap.size dk wr HI1.out hsz).mono ?_
          rintro e w4 ⟨rfl, hb4⟩
          go_wp2_with fail
          refine bodyPost_ret (v := .tuple #[str dk, .bool true]) (by simp [results, Tryz.results18, go_sem]) rfl ?_
          exact ⟨by rw [HF.out.1, HF.out.2], HB.out.trans hb4⟩
    · have t1 : ((l.length : Int) != t) = true := by rw [bne_iff_ne]; exact h1
      have HF := Lib.hid (join_no (L := l) (t := t) (fun h => h1 h.2.1))
      clear h1
      go_enter Tryz.func18, Tryz.ntmps18
      go_wp2_with fail
      refine bodyPost_ret (v := .tuple #[str [], .bool false]) (by simp [results, Tryz.results18, go_sem]) rfl ?_
      exact ⟨by rw [HF.out.1, HF.out.2], Below.refl _ _⟩
  · have t2 : decide (t < 1) = true := decide_eq_true (by omega)
    have HF := Lib.hid (join_no (L := l) (t := t) (fun h => h2 h.2.2))
    clear h2
    go_enter Tryz.func18, Tryz.ntmps18
    go_wp2_with fail
    refine bodyPost_ret (v := .tuple #[str [], .bool false]) (by simp [results, Tryz.results18, go_sem]) rfl ?_
    exact ⟨by rw [HF.out.1, HF.out.2], Below.refl _ _⟩
end Go.Proofs.YtpdpejlcilnafaaGreatDoor.kit
namespace Go.Proofs.YtpdpejlcilnafaaGreatDoor.kit
open Go.ChangeShapes Go.WideShapes Go.ChangeAt Go.RowKit
set_option linter.unusedVariables false
set_option linter.unusedSimpArgs false

/-- at most 40 strings of at most n bytes -/
def SmallN (n : Nat) (l : List ByteArray) : Prop := l.length ≤ 40 ∧ ∀ j, (l.getD j .empty).size ≤ n
theorem SmallN.sum {n : Nat} {l : List ByteArray} (h : SmallN n l) : ∀ k, sumW l k ≤ n * k
  | 0 => Nat.le_refl _
  | k + 1 => by
    have h1 := h.sum k
    have h2 := h.2 k
    show sumW l k + (l.getD k .empty).size ≤ _
    rw [Nat.mul_succ]
    omega
theorem SmallN.bound {n : Nat} {l : List ByteArray} (h : SmallN n l) (hn : n ≤ 20000) : sumW l l.length ≤ 1048576 := by
  have h1 := h.sum l.length
  have h2 : n * l.length ≤ 20000 * 40 := Nat.mul_le_mul hn h.1
  omega
theorem rec_form {P : List ByteArray} {s : ByteArray} (h : recOk P s = true) : ∃ (i n : Nat) (d : List UInt8), readC s.data.toList = ((i : Int), (n : Int), d, true) ∧ i < n ∧ n ≤ 40 ∧ (P.length = 0 ∨ P.length = n) ∧ s.toList.isEmpty = false ∧ recL P s = (P ++ List.replicate (n - P.length) ByteArray.empty).set i s := by
  rcases readC_cases s.data.toList with ⟨hq, _⟩ | ⟨i, n, d, hr, hq⟩
  · rw [(rec_bad hq).1] at h; cases h
  · have hk := hr.1
    unfold okK at hk
    obtain ⟨i', rfl⟩ := Int.eq_ofNat_of_zero_le hk.1
    obtain ⟨n', rfl⟩ := Int.eq_ofNat_of_zero_le (show 0 ≤ n by omega)
    have hP : P.length = 0 ∨ P.length = n' := by
      by_cases h0 : P.length = 0
      · exact .inl h0
      · by_cases h1 : (P.length : Int) = (n' : Int)
        · exact .inr (by omega)
        · rw [(rec_other hq (by omega) h1).1] at h; cases h
    have hne : s.toList.isEmpty = false := by
      rw [ByteArray.toList_eq, ← hr.2]
      unfold chunkL
      cases hc : conL (i' : Int) (n' : Int) d ++ [35] ++ Lib.itoa (cksum (conL (i' : Int) (n' : Int) d)) with
      | nil => simp at hc
      | cons _ _ => rfl
    refine ⟨i', n', d, hq, by omega, by omega, hP, hne, ?_⟩
    unfold recL
    rw [if_pos h, hq]
    simp
theorem rec_again {P : List ByteArray} {s : ByteArray} (h : recOk P s = true) : recOk (recL P s) s = false := by
  obtain ⟨i, n, d, hr, hi, hn, hP, hne, hl⟩ := rec_form h
  have hlen : (recL P s).length = n := by rw [hl]; simp; omega
  refine (rec_taken hr (by omega) ?_).1
  rw [hl, Int.toNat_natCast]
  have e : ((P ++ List.replicate (n - P.length) ByteArray.empty).set i s).getD i .empty = s := by
    rw [List.getD_eq_getElem?_getD, List.getElem?_set_self (by simp; omega)]
    rfl
  rw [e]
  exact hne
theorem smallN_rec {m : Nat} {P : List ByteArray} {s : ByteArray} (h : SmallN m P) (hs : s.size ≤ m) : SmallN m (recL P s) := by
  cases hr : recOk P s with
  | false => rw [rec_no hr]; exact h
  | true =>
    obtain ⟨i, n, d, _, hi, hn, hP, _, hl⟩ := rec_form hr
    rw [hl]
    refine ⟨by simp; omega, fun j => ?_⟩
    simp only [List.getD_eq_getElem?_getD, List.getElem?_set]
    split
    · split
      · simpa using hs
      · simp
    · rw [List.getElem?_append]
      split
      · have := h.2 j
        simpa [List.getD_eq_getElem?_getD] using this
      · rw [List.getElem?_replicate]
        split <;> simp
/-- the places behind the chunks from k on -/
def fillW (C : List ByteArray) (k : Nat) : List ByteArray := if k = C.length then [] else List.replicate k .empty ++ C.drop k
theorem fillW_end (C : List ByteArray) : fillW C C.length = [] := if_pos rfl
theorem fillW_zero {C : List ByteArray} : fillW C 0 = C := by
  unfold fillW
  split
  · rename_i h; exact (List.eq_nil_of_length_eq_zero h.symm).symm
  · simp
/-- one of the chunks of a text is what a reader takes it for -/
theorem enc_read {s : List UInt8} {size i : Nat} (h1 : 1 ≤ size) (h40 : partsN s.length size ≤ 40) (hi : i < partsN s.length size) :
    readC (chunkB s size (partsN s.length size) i).data.toList = ((i : Int), (partsN s.length size : Int), partL s size i, true) := by
  refine readC_yes ⟨⟨by omega, by omega, by omega, fun hd => ?_⟩, by unfold chunkB; simp⟩
  by_cases h0 : s.length = 0
  · rw [h0, partsN_big (by omega) h1]; rfl
  · have h2 : i ≤ (s.length - 1) / size := by unfold partsN at hi; omega
    have h3 := Nat.mul_le_mul_right size h2
    have h4 := Nat.div_mul_le_self (s.length - 1) size
    have h5 := congrArg List.length hd
    unfold partL at h5
    simp at h5
    omega
theorem enc_get {s : List UInt8} {size i : Nat} (h1 : 1 ≤ size) (h40 : partsN s.length size ≤ 40) (hi : i < partsN s.length size) : (encCh s (size : Int)).getD i .empty = chunkB s size (partsN s.length size) i := by
  rw [encCh_some h1 h40]
  simp [List.getD, hi]
theorem chunkB_ne (s : List UInt8) (size t i : Nat) : (chunkB s size t i).toList.isEmpty = false := by
  rw [ByteArray.toList_eq]
  unfold chunkB chunkL
  show (conL _ _ _ ++ [35] ++ Lib.itoa _).isEmpty = false
  cases hc : conL (i : Int) (t : Int) (partL s size i) ++ [35] ++ Lib.itoa (cksum (conL (i : Int) (t : Int) (partL s size i))) with
  | nil => simp at hc
  | cons _ _ => rfl
theorem empty_is : (ByteArray.empty).toList.isEmpty = true := by rw [ByteArray.toList_eq]; rfl
/-- the next chunk, the one before those received, is received; the first place was missing -/
theorem fill_step {s : List UInt8} {size i : Nat} (h1 : 1 ≤ size) (hi : i < (encCh s (size : Int)).length) :
    recOk (fillW (encCh s (size : Int)) (i + 1)) ((encCh s (size : Int)).getD i .empty) = true ∧ recL (fillW (encCh s (size : Int)) (i + 1)) ((encCh s (size : Int)).getD i .empty) = fillW (encCh s (size : Int)) i
    ∧ missC (fillW (encCh s (size : Int)) (i + 1)) ((encCh s (size : Int)).length : Int) = 0 := by
  by_cases h40 : partsN s.length size ≤ 40
  · have hl : (encCh s (size : Int)).length = partsN s.length size := by rw [encCh_some h1 h40]; simp
    have hi' : i < partsN s.length size := by omega
    have hr := enc_read h1 h40 hi'
    rw [enc_get h1 h40 hi']
    have hg : (encCh s (size : Int))[i]? = some (chunkB s size (partsN s.length size) i) := by
      have := enc_get h1 h40 hi'
      rw [List.getD_eq_getElem?_getD, List.getElem?_eq_getElem hi] at this
      rw [List.getElem?_eq_getElem hi]
      exact congrArg some this
    have hne := chunkB_ne s size (partsN s.length size) i
    generalize hC : encCh s (size : Int) = C at *
    generalize hX : chunkB s size (partsN s.length size) i = x at *
    generalize hN : partsN s.length size = n at *
    have hdrop : C.drop i = x :: C.drop (i + 1) := by
      rw [List.drop_eq_getElem_cons hi]
      congr 1
      rw [List.getElem?_eq_getElem hi] at hg
      exact Option.some.inj hg
    by_cases hend : i + 1 = C.length
    · have e1 : fillW C (i + 1) = [] := by rw [hend]; exact fillW_end C
      rw [e1]
      have hy := rec_yes (P := []) hr (.inl rfl)
      refine ⟨hy.1, ?_, ?_⟩
      · rw [hy.2]
        unfold fillW
        rw [if_neg (by omega), hdrop, List.drop_eq_nil_of_le (by omega)]
        apply List.ext_getElem?
        intro j
        simp only [List.nil_append, List.length_nil, Nat.sub_zero, Int.toNat_natCast, List.getElem?_set, List.length_replicate, List.getElem?_replicate, List.getElem?_append]
        by_cases hj : i = j
        · subst hj; simp; omega
        · rw [if_neg hj]
          by_cases hj2 : j < i
          · rw [if_pos (by omega), if_pos hj2, if_pos hj2]
          · rw [if_neg (by omega), if_neg hj2]
            have : j - i = (j - i - 1) + 1 := by omega
            rw [this]; simp
      · unfold missC
        rw [if_neg (by simp), if_pos ⟨rfl, by omega⟩]
    · have e1 : fillW C (i + 1) = List.replicate (i + 1) .empty ++ C.drop (i + 1) := if_neg hend
      have e1l : (fillW C (i + 1)).length = n := by rw [e1]; simp; omega
      have e1i : ((fillW C (i + 1)).getD (i : Int).toNat .empty).toList.isEmpty = true := by
        rw [e1, List.getD_eq_getElem?_getD, Int.toNat_natCast, List.getElem?_append_left (by simp), List.getElem?_replicate, if_pos (by omega)]
        exact empty_is
      have hy := rec_yes (P := fillW C (i + 1)) hr (.inr ⟨by omega, e1i⟩)
      refine ⟨hy.1, ?_, ?_⟩
      · rw [hy.2, e1l, e1]
        unfold fillW
        rw [if_neg (by omega), hdrop]
        simp only [Int.toNat_natCast, Nat.sub_self, List.replicate_zero, List.append_nil]
        rw [List.replicate_succ', List.append_assoc, List.set_append_right _ _ (by simp)]
        simp
      · have h0 : ((fillW C (i + 1)).getD 0 .empty).toList.isEmpty = true := by
          rw [e1, List.getD_eq_getElem?_getD, List.getElem?_append_left (by simp), List.getElem?_replicate, if_pos (by omega)]
          exact empty_is
        exact (idxE_at (l := fillW C (i + 1)) (k := 0) (by omega) (fun j hj => by omega) h0).2 _
  · rw [encCh_none (.inr (by simpa using h40))] at hi
    simp at hi
theorem take_parts (s : List UInt8) (size i : Nat) : s.take (i * size) ++ partL s size i = s.take ((i + 1) * size) := by
  unfold partL
  rw [Nat.succ_mul, List.take_add]
/-- all chunks join to the text; none is missing -/
theorem enc_join {s : List UInt8} {size : Nat} (h1 : 1 ≤ size) (h0 : 0 < (encCh s (size : Int)).length) :
    joinOk (encCh s (size : Int)) ((encCh s (size : Int)).length : Int) = true ∧ joinS (encCh s (size : Int)) ((encCh s (size : Int)).length : Int) = s ∧ missC (encCh s (size : Int)) ((encCh s (size : Int)).length : Int) = -1 := by
  by_cases h40 : partsN s.length size ≤ 40
  · have hl : (encCh s (size : Int)).length = partsN s.length size := by rw [encCh_some h1 h40]; simp
    have hrd : ∀ i, i < partsN s.length size → rdAt (encCh s (size : Int)) i = ((i : Int), (partsN s.length size : Int), partL s size i, true) := fun i hi => by
      unfold rdAt
      rw [enc_get h1 h40 hi]
      exact enc_read h1 h40 hi
    have hdat : ∀ k, k ≤ partsN s.length size → jDat (encCh s (size : Int)) k = s.take (k * size) := by
      intro k
      induction k with
      | zero => intro _; simp [jDat]
      | succ k ih =>
        intro hk
        show jDat (encCh s (size : Int)) k ++ (rdAt (encCh s (size : Int)) k).2.2.1 = _
        rw [ih (by omega), hrd k (by omega)]
        exact take_parts s size k
    have hj := join_yes (L := encCh s (size : Int)) (t := ((encCh s (size : Int)).length : Int)) ⟨fun j hj => by rw [hrd j (by omega)]; exact ⟨rfl, rfl, by rw [hl]⟩, rfl, by omega⟩
    refine ⟨hj.1, ?_, ?_⟩
    · rw [hj.2, hl, hdat _ (Nat.le_refl _)]
      refine List.take_of_length_le ?_
      unfold partsN
      have := Nat.div_add_mod (s.length - 1) size
      have := Nat.mod_lt (s.length - 1) (show 0 < size by omega)
      rw [Nat.add_mul, Nat.one_mul, Nat.mul_comm ((s.length - 1) / size)]
      omega
    · rw [(idxE_none (l := encCh s (size : Int)) (fun j hj => by rw [enc_get h1 h40 (by omega)]; exact chunkB_ne _ _ _ _)).2]
      rw [if_neg (by omega)]
  · rw [encCh_none (.inr (by simpa using h40))] at h0
    simp at h0
theorem join_none : joinOk [] 0 = false := (join_no (by omega)).1
theorem smallN_enc {s : List UInt8} {size : Nat} {m : Nat} (h1 : 1 ≤ size) (hm : size + 70 ≤ m) : SmallN m (encCh s (size : Int)) := by
  by_cases h40 : partsN s.length size ≤ 40
  · refine ⟨by rw [encCh_some h1 h40]; simpa using h40, fun j => ?_⟩
    by_cases hj : j < partsN s.length size
    · rw [enc_get h1 h40 hj]
      have := chunkL_len (i := (j : Int)) (n := (partsN s.length size : Int)) (d := partL s size j) (by omega) (by omega) (by omega) (by omega)
      have hp : (partL s size j).length ≤ size := by unfold partL; simp; omega
      unfold chunkB
      simp [ByteArray.size]
      omega
    · rw [List.getD_eq_getElem?_getD, List.getElem?_eq_none (by rw [encCh_some h1 h40]; simp; omega)]
      exact Nat.zero_le _
  · rw [encCh_none (.inr (by simpa using h40))]
    exact ⟨by simp, fun j => by simp⟩
theorem smallN_fill {C : List ByteArray} {m : Nat} (h : SmallN m C) (k : Nat) (hk : k ≤ C.length) : SmallN m (fillW C k) := by
  unfold fillW
  split
  · exact ⟨by simp, fun j => by simp⟩
  · refine ⟨by have := h.1; simp; omega, fun j => ?_⟩
    rw [List.getD_eq_getElem?_getD, List.getElem?_append]
    split
    · rw [List.getElem?_replicate]; split <;> simp
    · rw [List.getElem?_drop]
      have := h.2 (k + (j - k))
      rw [List.getD_eq_getElem?_getD] at this
      simpa using this
end Go.Proofs.YtpdpejlcilnafaaGreatDoor.kit
namespace Go.Proofs.YtpdpejlcilnafaaGreatDoor.kit
open Go.ChangeShapes Go.WideShapes Go.ChangeAt Go.RowKit

theorem gPow : Tryz.prog.globalNamed "internal/strconv.uint64pow10" = some 4 := by kernel_rfl
theorem gPowType : (Tryz.prog.globals[4]?).map (·.type) = some 218 := by kernel_rfl
theorem cellsPow : Tryz.prog.cellsOf 218 = 20 := by kernel_rfl
theorem cellsU64 : Tryz.prog.cellsOf 200 = 1 := by kernel_rfl
theorem tab_of_laid {laid : List (String × DataW Unit)} {W : World} (he : laid.filter (fun x => x.1 == "internal/strconv.uint64pow10") = [("internal/strconv.uint64pow10", Rows.laid_internal_strconv_uint64pow10)]) (h : laidMetH Tryz.prog laid W) : Tab W := by
  have h1 := h.filter fun x => x.1 == "internal/strconv.uint64pow10"
  rw [he] at h1
  have h2 : Lib.TabIs Tryz.prog W "internal/strconv.uint64pow10" .u64 Lib.pow10Tab := Lib.tabIs_of_head (rest := []) gPow gPowType Tryz.underlying218 Tryz.underlying200 cellsU64 cellsPow h1
  exact Lib.tabBelow_of_tabIs h2

def litVal : DataW Unit → Value
  | .lit (.int k n) => .int k n
  | _ => undef
def litVals : DataW Unit → List Value
  | .agg m => m.map litVal
  | d => [litVal d]
/-- a table's cells laid into the block of its variable -/
def laidCells (heap : Array Obj) (g : Nat) (d : DataW Unit) : Array Obj :=
  heap.modify g fun
    | .cells _ t frozen => .cells (match d with | .agg l => (l.flatMap litVals).toArray | _ => #[]) t frozen
    | o => o
end Go.Proofs.YtpdpejlcilnafaaGreatDoor.kit
namespace Go.Proofs.YtpdpejlcilnafaaGreatDoor.kit
open Go.ChangeShapes Go.WideShapes Go.ChangeAt Go.RowKit Go.Extern.Stop Go.Stop Go.Extern
set_option linter.unusedVariables false
set_option linter.unusedSimpArgs false

theorem isTypeOf (v : Value) (w : World) : (Extern.ReflectliteType.typeOf #[.iface 236 v]).run Tryz.prog w = .ok (.iface 161 (.agg #[.pointer (some ⟨9, 236, none⟩)])) w := by kernel_rfl
open Go.Extern.ReflectliteType Go.Extern.Rtype in
def cmpExt : Array Value → Sem Value := Extern.ReflectliteType.method fun t => do noPackHeld "Comparable" t; pure (.bool (← typeInfo t).comparable)
theorem isComparable (w : World) : (cmpExt #[.agg #[.pointer (some ⟨9, 236, none⟩)]]).run Tryz.prog w = .ok (.bool true) w := by kernel_rfl
theorem isMethodComparable (v : Value) (w : World) : (Go.method 372 161 v "Comparable").run Tryz.prog w = .ok (205, v) w := by kernel_rfl
theorem isComp : (Tryz.prog.info? 236).map (·.comparable) = some true := by kernel_rfl
theorem isSize : (Tryz.prog.info? 261).map (·.size) = some 1 := by kernel_rfl
theorem noIsE (v : Value) (xT : TypeId) (w : World) : (Instr.typeAssert (.iface 236 v) xT 163 true).run Tryz.prog w = .ok (.tuple #[.nilIface, .bool false]) w := run_typeAssert_lacksB Tryz.underlying163 (by kernel_rfl) (by kernel_rfl) v xT w
theorem noUnwrapE (v : Value) (xT : TypeId) (w : World) : (Instr.typeAssert (.iface 236 v) xT 166 true).run Tryz.prog w = .ok (.tuple #[.nilIface, .bool false]) w := run_typeAssert_lacksB Tryz.underlying166 (by kernel_rfl) (by kernel_rfl) v xT w
theorem noUnwrapsE (v : Value) (xT : TypeId) (w : World) : (Instr.typeAssert (.iface 236 v) xT 168 true).run Tryz.prog w = .ok (.tuple #[.nilIface, .bool false]) w := run_typeAssert_lacksB Tryz.underlying168 (by kernel_rfl) (by kernel_rfl) v xT w
theorem noIsP (v : Value) (xT : TypeId) (w : World) : (Instr.typeAssert (.iface 136 v) xT 163 true).run Tryz.prog w = .ok (.tuple #[.nilIface, .bool false]) w := run_typeAssert_lacksB Tryz.underlying163 (by kernel_rfl) (by kernel_rfl) v xT w
theorem hasUnwrapP (v : Value) (xT : TypeId) (w : World) : (Instr.typeAssert (.iface 136 v) xT 166 true).run Tryz.prog w = .ok (.tuple #[.iface 136 v, .bool true]) w := run_typeAssert_hasB Tryz.underlying166 (by kernel_rfl) v xT w
theorem methodUnwrap (v : Value) (w : World) : (Go.method 372 136 v "Unwrap").run Tryz.prog w = .ok (201, v) w := by kernel_rfl
/-- errors.Is(nil, x) -/
theorem is_nil (b : Addr) (w : World) :
    Calls Tryz.prog 52 #[.nilIface, .iface 236 (.pointer (some b))] w fun e w' => e = .returned (.bool false) ∧ w = w' := by
  have hn := run_eql_iface_nil_left (P := Tryz.prog) w 236 (.pointer (some b)) Tryz.underlying82
  go_enter Tryz.func52, Tryz.ntmps52
  go_wp2_with fail
  go_ret
  exact ⟨rfl, rfl⟩
set_option maxRecDepth 100000 in
/-- errors.Is(e, x), e one of the program's own errors that wraps x -/
theorem is_part_same (n : Int) (b : Addr) (w : World) :
    Calls Tryz.prog 52 #[.iface 136 (.agg #[.int .i64 n, .iface 236 (.pointer (some b))]), .iface 236 (.pointer (some b))] w fun e w' => e = .returned (.bool true) ∧ Below w.heap.size w w' := by
  obtain ⟨i, hi, hcmp⟩ := Option.map_eq_some_iff.1 isComp
  obtain ⟨j, hj, hjs⟩ := Option.map_eq_some_iff.1 isSize
  have h8 := @run_callFunc_extern Tryz.prog 90 _ Extern.ReflectliteType.typeOf Tryz.func90 (by kernel_rfl) (by kernel_rfl) (by kernel_rfl) (by kernel_rfl)
  have h32 := @run_callFunc_extern Tryz.prog 205 _ cmpExt Tryz.func205 (by kernel_rfl) (by kernel_rfl) (by kernel_rfl) (by kernel_rfl)
  have tT := isTypeOf
  have cT := isComparable
  have mR := isMethodComparable
  have nE := noIsE
  have uE := noUnwrapE
  have vE := noUnwrapsE
  have nW := noIsP
  have uW := hasUnwrapP
  have mU := methodUnwrap
  have heq := fun W => run_eql_iface_ptr_same (P := Tryz.prog) W b Tryz.underlying82 Tryz.underlying236 hi hcmp hj
  have hty := run_eql_iface_types (P := Tryz.prog) 136 236 (.agg #[.int .i64 n, .iface 236 (.pointer (some b))]) (.pointer (some b)) Tryz.underlying82 (by decide) w
  go_enter Tryz.func52, Tryz.ntmps52
  go_wp2
  refine wp_loop_rounds 2 ?_
  rw [rounds_succ]
  go_wp2
  rw [rounds_succ]
  go_wp2
  go_ret
  exact ⟨rfl, (Below.refl _ _).alloc (Nat.le_refl _) _⟩
set_option maxRecDepth 100000 in
/-- errors.Is(e, x), e one of the program's own errors that wraps another sentinel -/
theorem is_part_other (n : Int) (b a : Addr) (ca cb : Array Value) (ta tb : TypeId) (w : World) (hne : a ≠ b) (ha : w.heap[a.block]? = some (.cells ca ta (0, 0))) (hb : w.heap[b.block]? = some (.cells cb tb (0, 0))) :
    Calls Tryz.prog 52 #[.iface 136 (.agg #[.int .i64 n, .iface 236 (.pointer (some a))]), .iface 236 (.pointer (some b))] w fun e w' => e = .returned (.bool false) ∧ Below w.heap.size w w' := by
  obtain ⟨i, hi, hcmp⟩ := Option.map_eq_some_iff.1 isComp
  obtain ⟨j, hj, hjs⟩ := Option.map_eq_some_iff.1 isSize
  have h8 := @run_callFunc_extern Tryz.prog 90 _ Extern.ReflectliteType.typeOf Tryz.func90 (by kernel_rfl) (by kernel_rfl) (by kernel_rfl) (by kernel_rfl)
  have h32 := @run_callFunc_extern Tryz.prog 205 _ cmpExt Tryz.func205 (by kernel_rfl) (by kernel_rfl) (by kernel_rfl) (by kernel_rfl)
  have tT := isTypeOf
  have cT := isComparable
  have mR := isMethodComparable
  have nE := noIsE
  have uE := noUnwrapE
  have vE := noUnwrapsE
  have nW := noIsP
  have uW := hasUnwrapP
  have mU := methodUnwrap
  have hla := (Array.getElem?_eq_some_iff.1 ha).1
  have hlb := (Array.getElem?_eq_some_iff.1 hb).1
  have heq := fun W (h1 : W.heap[a.block]? = some (.cells ca ta (0, 0))) (h2 : W.heap[b.block]? = some (.cells cb tb (0, 0))) => run_eql_iface_ptr_other (P := Tryz.prog) W Tryz.underlying82 Tryz.underlying236 hi hcmp hj (by rw [hjs]; decide) hne h1 h2
  have hal : ∀ o, (w.alloc o).heap[a.block]? = some (.cells ca ta (0, 0)) ∧ (w.alloc o).heap[b.block]? = some (.cells cb tb (0, 0)) := fun o => ⟨(Below.heap_alloc w o a.block hla).trans ha, (Below.heap_alloc w o b.block hlb).trans hb⟩
  have heq' := fun o => heq (w.alloc o) (hal o).1 (hal o).2
  have hty := run_eql_iface_types (P := Tryz.prog) 136 236 (.agg #[.int .i64 n, .iface 236 (.pointer (some a))]) (.pointer (some b)) Tryz.underlying82 (by decide) w
  clear heq hal hla hlb ha hb
  go_enter Tryz.func52, Tryz.ntmps52
  go_wp2
  refine wp_loop_rounds 2 ?_
  rw [rounds_succ]
  go_wp2
  rw [rounds_succ]
  go_wp2
  go_ret
  exact ⟨rfl, (Below.refl _ _).alloc (Nat.le_refl _) _⟩
end Go.Proofs.YtpdpejlcilnafaaGreatDoor.kit
namespace Go.Proofs.YtpdpejlcilnafaaGreatDoor.kit
open Go.ChangeShapes Go.WideShapes Go.ChangeAt Go.RowKit
set_option linter.unusedVariables false
set_option linter.unusedSimpArgs false

/-- the three sentinels lie in memory, the first apart from the others -/
structure Sen (w : World) (a0 a1 a2 : Addr) : Prop where
  v0 : w.cell? ⟨0, 0, none⟩ = some (.iface 236 (.pointer (some a0)))
  v1 : w.cell? ⟨1, 0, none⟩ = some (.iface 236 (.pointer (some a1)))
  v2 : w.cell? ⟨2, 0, none⟩ = some (.iface 236 (.pointer (some a2)))
  n1 : a1 ≠ a0
  n2 : a2 ≠ a0
  b0 : ∃ c t, w.heap[a0.block]? = some (.cells c t (0, 0))
  b1 : ∃ c t, w.heap[a1.block]? = some (.cells c t (0, 0))
  b2 : ∃ c t, w.heap[a2.block]? = some (.cells c t (0, 0))
theorem Sen.below {w w' : World} {a0 a1 a2 : Addr} (h : Sen w a0 a1 a2) (hb : Below w.heap.size w w') : Sen w' a0 a1 a2 := by
  have hc : ∀ (p : Addr) v, w.cell? p = some v → w'.cell? p = some v := fun p v hp => (hb.cell (p := p) (World.block_lt_of_cell? w _ hp)).trans hp
  have hk : ∀ (k : Nat), (∃ c t, w.heap[k]? = some (.cells c t (0, 0))) → ∃ c t, w'.heap[k]? = some (.cells c t (0, 0)) := fun k ⟨c, t, hh⟩ => ⟨c, t, (hb.block k (Array.getElem?_eq_some_iff.1 hh).1).trans hh⟩
  exact ⟨hc _ _ h.v0, hc _ _ h.v1, hc _ _ h.v2, h.n1, h.n2, hk _ h.b0, hk _ h.b1, hk _ h.b2⟩
abbrev errV (n : Int) (a : Addr) : Value := .iface 136 (.agg #[.int .i64 n, .iface 236 (.pointer (some a))])
set_option maxRecDepth 100000 in
set_option maxHeartbeats 8000000 in
/-- there are no places -/
theorem store_none (a : Option Addr) (cap i : Nat) (n : Int) (d : ByteArray) (w : World) (a0 a1 a2 : Addr) (hS : Sen w a0 a1 a2) :
    Calls Tryz.prog 51 #[.slice a 0 cap, .agg #[.int .i64 (i : Int), .int .i64 n, .string d]] w fun e w' => e = .returned (errV i a0) ∧ Below w.heap.size w w' := by
  obtain ⟨W, hW⟩ : ∃ W, W = w.alloc (.cells #[.int .i64 (i : Int), .int .i64 n, .string d] 75) := ⟨_, rfl⟩
  have HB := Lib.hid (show Below w.heap.size w W by rw [hW]; exact (Below.refl _ _).alloc (Nat.le_refl _) _)
  have HR := Lib.hid (show BoxC W w.heap.size 75 #[.int .i64 (i : Int), .int .i64 n, .string d] by rw [hW]; exact BoxC.new _ _ _)
  have HW := Lib.hid hW
  have hS' := hS.below HB.out
  have y0 := hS'.v0
  have y1 := hS'.v1
  have y2 := hS'.v2
  rw [hW] at y0 y1 y2
  clear hW hS hS'
  go_enter Tryz.func51, Tryz.ntmps51
  go_wp2_with fail
  go_ret
  exact ⟨rfl, HW.out ▸ HB.out⟩
set_option maxRecDepth 100000 in
set_option maxHeartbeats 8000000 in
/-- there is another number of places -/
theorem store_other (a : Option Addr) (len cap i : Nat) (n : Int) (d : ByteArray) (w : World) (a0 a1 a2 : Addr) (hS : Sen w a0 a1 a2) (h0 : 0 < len) (hn : (len : Int) ≠ n) :
    Calls Tryz.prog 51 #[.slice a len cap, .agg #[.int .i64 (i : Int), .int .i64 n, .string d]] w fun e w' => e = .returned (errV i a1) ∧ Below w.heap.size w w' := by
  obtain ⟨W, hW⟩ : ∃ W, W = w.alloc (.cells #[.int .i64 (i : Int), .int .i64 n, .string d] 75) := ⟨_, rfl⟩
  have HB := Lib.hid (show Below w.heap.size w W by rw [hW]; exact (Below.refl _ _).alloc (Nat.le_refl _) _)
  have HR := Lib.hid (show BoxC W w.heap.size 75 #[.int .i64 (i : Int), .int .i64 n, .string d] by rw [hW]; exact BoxC.new _ _ _)
  have HW := Lib.hid hW
  have hS' := hS.below HB.out
  have y0 := hS'.v0
  have y1 := hS'.v1
  have y2 := hS'.v2
  rw [hW] at y0 y1 y2
  clear hW hS hS'
  have g0 : ((len : Int) == 0) = false := by rw [beq_eq_false_iff_ne]; omega
  have g1 : ((len : Int) != n) = true := by rw [bne_iff_ne]; exact hn
  have g2 : (len == 0) = false := by rw [beq_eq_false_iff_ne]; omega
  clear h0 hn
  go_enter Tryz.func51, Tryz.ntmps51
  go_wp2_with fail
  go_ret
  exact ⟨rfl, HW.out ▸ HB.out⟩
set_option maxRecDepth 100000 in
set_option maxHeartbeats 8000000 in
/-- the place is taken -/
theorem store_taken (B g cap i : Nat) (P : List ByteArray) (d : ByteArray) (w : World) (a0 a1 a2 : Addr) (hS : Sen w a0 a1 a2) (o : OwnW B w (.slice (some ⟨g, 0, none⟩) P.length cap) P) (hi : i < P.length) (ht : (P.getD i .empty).toList.isEmpty = false) :
    Calls Tryz.prog 51 #[.slice (some ⟨g, 0, none⟩) P.length cap, .agg #[.int .i64 (i : Int), .int .i64 (P.length : Int), .string d]] w fun e w' => e = .returned (errV i a2) ∧ Below w.heap.size w w' := by
  have hc := cellW o i hi
  have hgl := (o.block g rfl).2
  obtain ⟨n, hn⟩ : ∃ n : Int, n = (P.length : Int) := ⟨_, rfl⟩
  rw [← hn]
  obtain ⟨W, hW⟩ : ∃ W, W = w.alloc (.cells #[.int .i64 (i : Int), .int .i64 n, .string d] 75) := ⟨_, rfl⟩
  have HB := Lib.hid (show Below w.heap.size w W by rw [hW]; exact (Below.refl _ _).alloc (Nat.le_refl _) _)
  have HR := Lib.hid (show BoxC W w.heap.size 75 #[.int .i64 (i : Int), .int .i64 n, .string d] by rw [hW]; exact BoxC.new _ _ _)
  have HW := Lib.hid hW
  have hS' := hS.below HB.out
  have y0 := hS'.v0
  have y1 := hS'.v1
  have y2 := hS'.v2
  rw [hW] at y0 y1 y2
  clear hW hS hS'
  have hc' := (HB.out.cell (p := ⟨g, i, none⟩) hgl).trans hc
  rw [HW.out] at hc'
  have g0 : ((P.length : Int) == 0) = false := by rw [beq_eq_false_iff_ne]; omega
  have g1 : ((P.length : Int) != n) = false := by rw [hn]; simp
  have g2 : (P.length == 0) = false := by rw [beq_eq_false_iff_ne]; omega
  have g3 : (P.getD i .empty).toList.isEmpty = false := ht
  have hi' : (i : Int) < (P.length : Int) := by omega
  generalize P.getD i .empty = z at *
  clear hc ht hn
  go_enter Tryz.func51, Tryz.ntmps51
  go_wp2_with fail
  go_ret
  exact ⟨rfl, HW.out ▸ HB.out⟩
set_option maxRecDepth 100000 in
set_option maxHeartbeats 8000000 in
/-- the chunk is stored -/
theorem store_yes (B g cap i : Nat) (P : List ByteArray) (d s : ByteArray) (w : World) (a0 a1 a2 : Addr) (hS : Sen w a0 a1 a2) (hT : Tab w) (hB0 : B ≤ w.heap.size) (o : OwnW B w (.slice (some ⟨g, 0, none⟩) P.length cap) P) (hi : i < P.length) (hP40 : P.length ≤ 40) (ht : (P.getD i .empty).toList.isEmpty = true)
    (hd : d.size ≤ 1048576) (hs : chunkL i P.length d.data.toList = s.data.toList) :
    Calls Tryz.prog 51 #[.slice (some ⟨g, 0, none⟩) P.length cap, .agg #[.int .i64 (i : Int), .int .i64 (P.length : Int), .string d]] w fun e w' => e = .returned .nilIface ∧ OwnW B w' (.slice (some ⟨g, 0, none⟩) P.length cap) (P.set i s) ∧ Below B w w' := by
  have hc := cellW o i hi
  have hgl := (o.block g rfl).2
  have hgB := (o.block g rfl).1
  have jc := fun W (h : Tab W) => implChunk (i : Int) (P.length : Int) d W (by omega) (by omega) (by omega) (by omega) hd h
  rw [hs] at jc
  have e1 : (⟨s.data.toList.toArray⟩ : ByteArray) = s := ba_eta s
  rw [e1] at jc
  obtain ⟨n, hn⟩ : ∃ n : Int, n = (P.length : Int) := ⟨_, rfl⟩
  rw [← hn] at jc ⊢
  have JC := Lib.hid jc
  have HT := Lib.hid (fun W (h : Below w.heap.size w W) => hT.below h)
  obtain ⟨W, hW⟩ : ∃ W, W = w.alloc (.cells #[.int .i64 (i : Int), .int .i64 n, .string d] 75) := ⟨_, rfl⟩
  have HB := Lib.hid (show Below w.heap.size w W by rw [hW]; exact (Below.refl _ _).alloc (Nat.le_refl _) _)
  have HR := Lib.hid (show BoxC W w.heap.size 75 #[.int .i64 (i : Int), .int .i64 n, .string d] by rw [hW]; exact BoxC.new _ _ _)
  have HW := Lib.hid hW
  have hS' := hS.below HB.out
  have y0 := hS'.v0
  have y1 := hS'.v1
  have y2 := hS'.v2
  rw [hW] at y0 y1 y2
  clear hW hS hS'
  have HO := Lib.hid (o.later HB.out)
  have hc' := (HB.out.cell (p := ⟨g, i, none⟩) hgl).trans hc
  rw [HW.out] at hc'
  have g0 : ((P.length : Int) == 0) = false := by rw [beq_eq_false_iff_ne]; omega
  have g1 : ((P.length : Int) != n) = false := by rw [hn]; simp
  have g2 : (P.length == 0) = false := by rw [beq_eq_false_iff_ne]; omega
  have g3 : (P.getD i .empty).toList.isEmpty = true := ht
  have hiP := hi
  have hi' : (i : Int) < (P.length : Int) := by omega
  generalize P.getD i .empty = z at *
  clear hc ht hn jc e1 hs hT o
  go_enter Tryz.func51, Tryz.ntmps51
  go_wp2_with fail
  rw [← HW.out]
  clear HW y0 y1 y2 hc' g0 g1 g2 g3
  refine region_reachR (m := 6) (fun a b => Below a.heap.size a b) ((Below.refl _ _).drew) (fun _ _ _ h k => Below.trans h (k.mono h.size)) [37, 38, 39, 40, 41, 42] (Fs [isV (.slice (some ⟨g, 0, none⟩) P.length cap), isV (.pointer (some ⟨w.heap.size, 0, none⟩)), isV (.int .i64 (i : Int)), isV (.agg #[.int .i64 (i : Int), .int .i64 n, .string d]), isV (.string s), isV (.pointer (some ⟨g, i, none⟩))]) (by kernel_rfl) (by decide) rfl (by decide) (by kernel_rfl) (by kernel_rfl) (fun _ _ _ _ _ h => h) (Fs_monoR ⟨isV_monoR _ _, isV_monoR _ _, isV_monoR _ _, isV_monoR _ _, isV_monoR _ _, isV_monoR _ _, trivial⟩) ?step ?tail
  case step =>
    intro i hi vs wq hBq hd
    rcases (show i = 0 ∨ i = 1 ∨ i = 2 ∨ i = 3 ∨ i = 4 ∨ i = 5 from by omega) with rfl | rfl | rfl | rfl | rfl | rfl
    · refine wpOp_step (o := _) rfl (fun K' hK => ?_)
      have HK := Lib.hid hK
      clear hK
      simp only [lay, Act.put, List.setIfInBounds_toArray, List.set_cons_zero, List.set_cons_succ, List.getD_cons_zero, List.getD_cons_succ, id_eq]
      go_simp
      refine HK.out _ _ ⟨_, ?_, Below.refl _ _, rfl⟩
      simp only [lay, Act.put, List.setIfInBounds_toArray, List.set_cons_zero, List.set_cons_succ, List.getD_cons_zero, List.getD_cons_succ, id_eq]
    · refine wpOp_step (o := _) rfl (fun K' hK => ?_)
      have HK := Lib.hid hK
      clear hK
      simp only [lay, Act.put, List.setIfInBounds_toArray, List.set_cons_zero, List.set_cons_succ, List.getD_cons_zero, List.getD_cons_succ, id_eq]
      go_simp
      refine HK.out _ _ ⟨_, ?_, Below.refl _ _, rfl⟩
      simp only [lay, Act.put, List.setIfInBounds_toArray, List.set_cons_zero, List.set_cons_succ, List.getD_cons_zero, List.getD_cons_succ, id_eq]
    · have e1' : vs 1 = .pointer (some ⟨w.heap.size, 0, none⟩) := hd 1 (List.contains_iff_mem.1 (by kernel_rfl))
      have hBq : Below W.heap.size W wq := hBq
      have z0 := (HR.out.later hBq).c 0 rfl
      refine wpOp_step (o := _) rfl (fun K' hK => ?_)
      have HK := Lib.hid hK
      clear hK
      simp only [lay, Act.put, List.setIfInBounds_toArray, List.set_cons_zero, List.set_cons_succ, List.getD_cons_zero, List.getD_cons_succ, id_eq]
      rw [e1']
      go_simp
      refine HK.out _ _ ⟨_, ?_, Below.refl _ _, rfl⟩
      simp only [lay, Act.put, List.setIfInBounds_toArray, List.set_cons_zero, List.set_cons_succ, List.getD_cons_zero, List.getD_cons_succ, id_eq]
      rw [e1']
    · have hBq : Below W.heap.size W wq := hBq
      have z0 := (HR.out.later hBq).c 0 rfl
      have z1 := (HR.out.later hBq).c 1 rfl
      have z2 := (HR.out.later hBq).c 2 rfl
      refine wpOp_step (o := _) rfl (fun K' hK => ?_)
      have HK := Lib.hid hK
      clear hK
      simp only [lay, Act.put, List.setIfInBounds_toArray, List.set_cons_zero, List.set_cons_succ, List.getD_cons_zero, List.getD_cons_succ, id_eq]
      go_simp
      refine HK.out _ _ ⟨_, ?_, Below.refl _ _, rfl⟩
      simp only [lay, Act.put, List.setIfInBounds_toArray, List.set_cons_zero, List.set_cons_succ, List.getD_cons_zero, List.getD_cons_succ, id_eq]
    · have e3' : vs 3 = .agg #[.int .i64 (i : Int), .int .i64 n, .string d] := hd 3 (List.contains_iff_mem.1 (by kernel_rfl))
      have hBq' : Below W.heap.size W wq := hBq
      refine wpOp_step (o := _) rfl (fun K' hK => ?_)
      have HK := Lib.hid hK
      clear hK
      simp only [lay, Act.put, List.setIfInBounds_toArray, List.set_cons_zero, List.set_cons_succ, List.getD_cons_zero, List.getD_cons_succ, id_eq]
      rw [e3']
      go_simp
      go_at_call 48
      refine (JC.out wq (HT.out _ (HB.out.trans (hBq'.mono HB.out.size)))).mono ?_
      rintro e w2 ⟨rfl, hb⟩
      refine HK.out _ _ ⟨_, ?_, hb, rfl⟩
      simp only [lay, Act.put, List.setIfInBounds_toArray, List.set_cons_zero, List.set_cons_succ, List.getD_cons_zero, List.getD_cons_succ, id_eq]
      rw [e3']
    · have e0' : vs 0 = .slice (some ⟨g, 0, none⟩) P.length cap := hd 0 (List.contains_iff_mem.1 (by kernel_rfl))
      have e2' : vs 2 = .int .i64 (i : Int) := hd 2 (List.contains_iff_mem.1 (by kernel_rfl))
      refine wpOp_step (o := _) rfl (fun K' hK => ?_)
      have HK := Lib.hid hK
      clear hK
      simp only [lay, Act.put, List.setIfInBounds_toArray, List.set_cons_zero, List.set_cons_succ, List.getD_cons_zero, List.getD_cons_succ, id_eq]
      rw [e0', e2']
      go_simp
      refine HK.out _ _ ⟨_, ?_, Below.refl _ _, rfl⟩
      simp only [lay, Act.put, List.setIfInBounds_toArray, List.set_cons_zero, List.set_cons_succ, List.getD_cons_zero, List.getD_cons_succ, id_eq]
      rw [e0', e2']
  case tail =>
    intro vs wq hBq hf
    have e4 : vs 4 = .string s := hf 4 (by decide)
    have e5 : vs 5 = .pointer (some ⟨g, i, none⟩) := hf 5 (by decide)
    simp only [lay, Act.put, List.setIfInBounds_toArray, List.set_cons_zero, List.set_cons_succ, List.getD_cons_zero, List.getD_cons_succ, id_eq]
    rw [e4, e5]
    clear e4 e5
    have hBq : Below W.heap.size W wq := hBq
    refine any_all (rs := [6]) (by kernel_rfl) (by simp) ?_
    intro i hi
    simp only [List.mem_cons, List.not_mem_nil, or_false] at hi
    subst hi
    refine wpOp_step (o := _) rfl (fun K' hK => ?_)
    have HK := Lib.hid hK
    clear hK
    have hOq := HO.out.later hBq
    have hz := cellW hOq i hiP
    have hzf := hOq.row.frozenAt i
    go_simp
    refine HK.out _ _ ?_
    clear HK K' hz hzf
    try simp only [Act.put, List.setIfInBounds_toArray, List.set_cons_zero, List.set_cons_succ]
    refine any_done (by kernel_rfl) ?_ _
    have HST := Lib.hid (hOq.storedAt i s)
    have HBS := Lib.hid ((HB.out.mono hB0).trans (hBq.mono (Nat.le_trans hB0 HB.out.size)) |>.setCell (p := ⟨g, i, none⟩) hgB (.string s))
    clear hBq hOq
    go_wp2_with fail
    go_ret
    exact ⟨rfl, HST.out, HBS.out⟩
end Go.Proofs.YtpdpejlcilnafaaGreatDoor.kit
namespace Go.Proofs.YtpdpejlcilnafaaGreatDoor.kit
open Go.ChangeShapes Go.WideShapes Go.ChangeAt Go.RowKit
set_option linter.unusedVariables false
set_option linter.unusedSimpArgs false
set_option maxRecDepth 100000 in
set_option maxHeartbeats 2000000 in
theorem cloneWs (v : Value) (l : List ByteArray) (w : World) (hl : l.length ≤ 4194304) (hs : SrcW w.heap.size w v l) :
    Calls Tryz.prog 49 #[v] w fun e w' => ∃ v', e = .returned v' ∧ OwnW w.heap.size w' v' l ∧ Below w.heap.size w w' := by
  have hs' := hs
  rcases hs with ⟨rfl, rfl⟩ | ⟨x, c, rfl, hlt, hc⟩
  · clear hs'
    have hq := fun (W : World) => Lib.run_eql_slice_nil W 40 _ none 0 0 0 0 Tryz.underlying40
    go_enter Tryz.func49, Tryz.ntmps49
    go_wp2_with fail
    go_ret
    exact ⟨_, rfl, World.ownsRow_nil _ _ _ _, Below.refl _ _⟩
  · have HS := Lib.hid (hs'.below ((Below.refl w.heap.size w).alloc (Nat.le_refl _) (.cells #[] 9)) (Nat.le_refl _))
    have HN := Lib.hid (show OwnW w.heap.size (w.alloc (.cells #[] 9)) (.slice (some ⟨w.heap.size, 0, none⟩) 0 0) [] from World.ownsRow_lit w #[] 0 (Nat.le_refl _) (Nat.zero_le _) rfl)
    clear hs' hc
    have hq := fun (W : World) => Lib.run_eql_slice_nil W 40 _ (some x) l.length c 0 0 Tryz.underlying40
    go_enter Tryz.func49, Tryz.ntmps49
    go_wp2_with (at_builtin; refine wpList_appW rfl _ _ rfl w.heap.size _ [] rfl HN.out w.heap.size _ l rfl HS.out (by simp; omega) (by simp) ?_; intro v' w1 hown' hb1 hg1)
    obtain ⟨y, q, rfl⟩ := hown'.shape
    go_wp2_with fail
    go_ret
    exact ⟨_, rfl, by simpa using hown', ((Below.refl w.heap.size w).alloc (Nat.le_refl _) _).trans hb1⟩
theorem Sen.isSame {w : World} {a0 a1 a2 : Addr} (h : Sen w a0 a1 a2) (n : Int) :
    Calls Tryz.prog 52 #[errV n a0, .iface 236 (.pointer (some a0))] w fun e w' => e = .returned (.bool true) ∧ Below w.heap.size w w' := is_part_same n a0 w
theorem Sen.isOther1 {w : World} {a0 a1 a2 : Addr} (h : Sen w a0 a1 a2) (n : Int) :
    Calls Tryz.prog 52 #[errV n a1, .iface 236 (.pointer (some a0))] w fun e w' => e = .returned (.bool false) ∧ Below w.heap.size w w' := by
  obtain ⟨c0, t0, h0⟩ := h.b0
  obtain ⟨c1, t1, h1⟩ := h.b1
  exact is_part_other n a0 a1 _ _ _ _ w h.n1 h1 h0
theorem Sen.isOther2 {w : World} {a0 a1 a2 : Addr} (h : Sen w a0 a1 a2) (n : Int) :
    Calls Tryz.prog 52 #[errV n a2, .iface 236 (.pointer (some a0))] w fun e w' => e = .returned (.bool false) ∧ Below w.heap.size w w' := by
  obtain ⟨c0, t0, h0⟩ := h.b0
  obtain ⟨c1, t1, h1⟩ := h.b2
  exact is_part_other n a0 a2 _ _ _ _ w h.n2 h1 h0
theorem rd_lenI {s : List UInt8} {i n : Int} {d : List UInt8} (h : ReadsC s i n d) : d.length ≤ s.length := by
  have := congrArg List.length h.form
  simp at this
  omega
theorem ownMade (w : World) (n : Nat) (hn : n ≤ 40) : OwnW w.heap.size (w.alloc (.cells (madeCells #[.string .empty] n) 9)) (.slice (some ⟨w.heap.size, 0, none⟩) n n) (List.replicate n ByteArray.empty) := by
  have h := World.ownsRow_lit (base := w.heap.size) (e := 9) (size := 1) w (madeCells #[.string .empty] n) n (Nat.le_refl _) (by unfold maxLen; omega) (by rw [size_madeCells]; omega)
  refine OwnW.of (n := n) ?_ rfl |> (fun h => by simpa using h)
  have e : (List.replicate n ByteArray.empty).map Value.string = (madeCells #[.string .empty] n).toList := by
    unfold madeCells
    apply List.ext_getElem (by simp)
    intro i h1 h2
    simp [Nat.mod_one]
  rw [e]; exact h
set_option maxRecDepth 100000 in
set_option maxHeartbeats 8000000 in
theorem implReceiveChunk (b : Nat) (v : Value) (P : List ByteArray) (s : ByteArray) (w : World) (a0 a1 a2 : Addr) (h : P.length ≤ 4194304) (hs : sumW P P.length ≤ 1048576) (o : OwnW b w v P) (hs2 : s.size ≤ 1048576) (hT : Tab w) (hM : Mx w) (hS : Sen w a0 a1 a2) :
    Calls Tryz.prog 16 #[v, .string s] w fun e w' => ∃ u, e = .returned (.tuple #[u, .bool (recOk P s)]) ∧ OwnW w.heap.size w' u (recL P s) ∧ Below w.heap.size w w' := by
  obtain ⟨va, vc, rfl⟩ := o.shape
  have jc := Lib.hid (cloneWs _ P w h (srcW_own o))
  have jr := fun W (hT : Tab W) (hM : Mx W) => implParseChunk s W hs2 hT hM
  unfold rdP at jr
  have HT := Lib.hid hT
  have HM := Lib.hid hM
  have HS := Lib.hid hS
  clear o hs hT hM hS
  rcases readC_cases s.data.toList with ⟨hr, _⟩ | ⟨i, n, d, hrd, hr⟩
  · have HF := Lib.hid (rec_bad (P := P) hr)
    rw [hr] at jr
    have JR := Lib.hid jr
    clear jr hr
    go_enter Tryz.func16, Tryz.ntmps16
    go_wp2_with fail
    refine (jc.out).mono ?_
    rintro e w1 ⟨u, rfl, ho, hb⟩
    obtain ⟨xa, xc, rfl⟩ := ho.shape
    have J := Lib.hid (JR.out w1 (HT.out.below hb) (HM.out.below hb))
    have HO1 := Lib.hid ho
    have HB1 := Lib.hid hb
    clear ho hb jc
    go_wp2_with fail
    refine (J.out).mono ?_
    rintro e w2 ⟨rfl, hb⟩
    have HO := Lib.hid (HO1.out.later hb)
    have HB := Lib.hid (HB1.out.trans (hb.mono HB1.out.size))
    clear hb J HO1 HB1 JR
    have hA := (Below.refl w2.heap.size w2).alloc (Nat.le_refl _) (.cells #[.int .i64 0, .int .i64 0, str []] 75)
    have HO3 := Lib.hid (HO.out.later hA)
    have HB3 := Lib.hid (HB.out.trans (hA.mono HB.out.size))
    clear hA HO HB
    go_wp2_with fail
    refine bodyPost_ret (v := .tuple #[.slice xa P.length xc, .bool false]) (by simp [results, Tryz.results16, go_sem]) rfl ?_
    exact ⟨_, by rw [HF.out.1], by rw [HF.out.2]; exact HO3.out, HB3.out⟩
  · have hk := hrd.1
    have hch := hrd.2
    unfold okK at hk
    obtain ⟨hk1, hk2, hk3, _⟩ := hk
    obtain ⟨i, rfl⟩ := Int.eq_ofNat_of_zero_le hk1
    obtain ⟨n, rfl⟩ := Int.eq_ofNat_of_zero_le (show 0 ≤ n by omega)
    have hin : i < n := by omega
    have hn40 : n ≤ 40 := by omega
    have hdl : d.length ≤ 1048576 := by
      have := rd_lenI hrd
      rw [toL_len] at this
      omega
    rw [hr] at jr
    simp only at jr
    have JR := Lib.hid jr
    have HRD := Lib.hid hr
    have HCH := Lib.hid hch
    clear jr hr hk1 hk2 hk3 hrd hch
    by_cases hP0 : P.length = 0
    · obtain rfl := List.eq_nil_of_length_eq_zero hP0
      have HF := Lib.hid (rec_yes (P := []) HRD.out (.inl rfl))
      clear hP0
      go_enter Tryz.func16, Tryz.ntmps16
      go_wp2_with fail
      refine (jc.out).mono ?_
      rintro e w1 ⟨u, rfl, ho, hb⟩
      obtain ⟨xa, xc, rfl⟩ := ho.shape
      have J := Lib.hid (JR.out w1 (HT.out.below hb) (HM.out.below hb))
      have HO1 := Lib.hid ho
      have HB1 := Lib.hid hb
      clear ho hb jc
      go_wp2_with fail
      refine (J.out).mono ?_
      rintro e w2 ⟨rfl, hb⟩
      have HO := Lib.hid (HO1.out.later hb)
      have HB := Lib.hid (HB1.out.trans (hb.mono HB1.out.size))
      clear hb J HO1 HB1 JR
      have hA := (Below.refl w2.heap.size w2).alloc (Nat.le_refl _) (.cells #[.int .i64 (i : Int), .int .i64 (n : Int), str d] 75)
      have HO3 := Lib.hid (HO.out.later hA)
      have HB3 := Lib.hid (HB.out.trans (hA.mono HB.out.size))
      have HS3 := Lib.hid (HS.out.below HB3.out)
      have HR3 := Lib.hid (BoxC.new w2 75 #[.int .i64 (i : Int), .int .i64 (n : Int), str d])
      clear hA HO HB
      have J3 := Lib.hid (store_none xa xc i (n : Int) ⟨d.toArray⟩ _ a0 a1 a2 HS3.out)
      go_wp2_with fail
      refine (J3.out).mono ?_
      rintro e w3 ⟨rfl, hb⟩
      have HR4 := Lib.hid (HR3.out.later hb)
      have HB4 := Lib.hid (HB3.out.trans (hb.mono HB3.out.size))
      have HS4 := Lib.hid (HS3.out.below hb)
      clear hb J3 HO3 HB3 HS3 HR3
      have y0 := HS4.out.v0
      have J4 := Lib.hid (HS4.out.isSame i)
      go_wp2_with fail
      refine (J4.out).mono ?_
      rintro e w4 ⟨rfl, hb⟩
      have HR5 := Lib.hid (HR4.out.later hb)
      have HB5 := Lib.hid (HB4.out.trans (hb.mono HB4.out.size))
      clear hb J4 HB4 HS4 HR4 y0
      have r1 := HR5.out.c 1 rfl
      have hmk : ∀ W : World, (Instr.makeSlice 77 (.int .i64 (n : Int)) (.int .i64 (n : Int))).run Tryz.prog W = .ok (.slice (some ⟨W.heap.size, 0, none⟩) n n) (W.alloc (.cells (madeCells #[.string .empty] n) 9)) := fun W =>
        run_make_row' 77 9 (.string .empty) 16 Tryz.underlying77 infoW rfl .i64 .i64 n (by omega) (by omega) W
      have hA := (Below.refl w4.heap.size w4).alloc (Nat.le_refl _) (.cells (madeCells #[.string .empty] n) 9)
      have HB6 := Lib.hid (HB5.out.trans (hA.mono HB5.out.size))
      have HR6 := Lib.hid (HR5.out.later hA)
      have q0 := HR6.out.c 0 rfl
      have q1 := HR6.out.c 1 rfl
      have q2 := HR6.out.c 2 rfl
      obtain ⟨Q, hQ⟩ : ∃ Q, Q = List.replicate n ByteArray.empty := ⟨_, rfl⟩
      have hQl : Q.length = n := by rw [hQ]; simp
      have hOM : OwnW w4.heap.size (w4.alloc (.cells (madeCells #[.string .empty] n) 9)) (.slice (some ⟨w4.heap.size, 0, none⟩) Q.length n) Q := by
        rw [hQl, hQ]; exact ownMade w4 n hn40
      have hQe : (Q.getD i ByteArray.empty).toList.isEmpty = true := by
        rw [hQ]
        have : (List.replicate n ByteArray.empty).getD i ByteArray.empty = ByteArray.empty := by simp [List.getD, hin]
        rw [this]; simp [ByteArray.toList, ByteArray.toList.loop]
      have jy := store_yes w4.heap.size w4.heap.size n i Q ⟨d.toArray⟩ s _ a0 a1 a2 (HS.out.below HB6.out) (HT.out.below HB6.out) hA.size hOM (by omega) (by omega) hQe (by simp [ByteArray.size]; omega) (by rw [hQl]; simpa using HCH.out)
      rw [hQl] at jy
      have JY := Lib.hid jy
      have HQ := Lib.hid hQ
      have hz5 := HB5.out.size
      clear jy hOM hQe hQ hQl hA HR5 HR6
      go_wp2_with fail
      refine (JY.out).mono ?_
      rintro e w6 ⟨rfl, ho, hb⟩
      have HO7 := Lib.hid (ho.mono hz5)
      have HB7 := Lib.hid (HB6.out.trans (hb.mono hz5))
      clear ho hb JY r1 hmk q0 q1 q2
      go_wp2_with fail
      go_region
      go_wp2_with fail
      refine bodyPost_ret (v := .tuple #[.slice (some ⟨w4.heap.size, 0, none⟩) n n, .bool true]) (by simp [results, Tryz.results16, go_sem]) rfl ?_
      have e2 : recL [] s = Q.set i s := by rw [HF.out.2, HQ.out]; simp
      exact ⟨_, by rw [HF.out.1], by rw [e2]; exact HO7.out.later ((Below.refl _ _).drew), HB7.out.trans ((Below.refl _ _).drew.mono HB7.out.size)⟩
    · by_cases hPn : (P.length : Int) = (n : Int)
      · obtain rfl : n = P.length := by omega
        have hi' : i < P.length := hin
        cases ht : (P.getD i ByteArray.empty).toList.isEmpty with
        | false =>
          have HF := Lib.hid (rec_taken (P := P) HRD.out (Nat.pos_of_ne_zero hP0) ht)
          go_enter Tryz.func16, Tryz.ntmps16
          go_wp2_with fail
          refine (jc.out).mono ?_
          rintro e w1 ⟨u, rfl, ho, hb⟩
          obtain ⟨xa, xc, rfl⟩ := ho.shape
          have J := Lib.hid (JR.out w1 (HT.out.below hb) (HM.out.below hb))
          have HO1 := Lib.hid ho
          have HB1 := Lib.hid hb
          clear ho hb jc
          go_wp2_with fail
          refine (J.out).mono ?_
          rintro e w2 ⟨rfl, hb⟩
          have HO := Lib.hid (HO1.out.later hb)
          have HB := Lib.hid (HB1.out.trans (hb.mono HB1.out.size))
          clear hb J HO1 HB1 JR
          obtain ⟨g, c, hv, _⟩ := HO.out.there (Nat.pos_of_ne_zero hP0)
          injection hv with hv1 hv2 hv3
          subst hv1 hv3
          clear hv2 hP0 hPn
          obtain ⟨n, hn⟩ : ∃ n, n = P.length := ⟨_, rfl⟩
          rw [← hn]
          have hA := (Below.refl w2.heap.size w2).alloc (Nat.le_refl _) (.cells #[.int .i64 (i : Int), .int .i64 (n : Int), str d] 75)
          have HO3 := Lib.hid (HO.out.later hA)
          have HB3 := Lib.hid (HB.out.trans (hA.mono HB.out.size))
          have HS3 := Lib.hid (HS.out.below HB3.out)
          have HR3 := Lib.hid (BoxC.new w2 75 #[.int .i64 (i : Int), .int .i64 (n : Int), str d])
          clear hA HO HB
          have J3 := Lib.hid (store_taken w.heap.size g xc i P ⟨d.toArray⟩ _ a0 a1 a2 HS3.out HO3.out hi' ht)
          rw [← hn] at J3
          have HNN := Lib.hid hn
          clear ht hi' hin hn
          go_wp2_with fail
          refine (J3.out).mono ?_
          rintro e w3 ⟨rfl, hb⟩
          have HO4 := Lib.hid (HO3.out.later hb)
          have HB4 := Lib.hid (HB3.out.trans (hb.mono HB3.out.size))
          have HS4 := Lib.hid (HS3.out.below hb)
          clear hb J3 HO3 HB3 HS3 HR3
          have y0 := HS4.out.v0
          have J4 := Lib.hid (HS4.out.isOther2 i)
          go_wp2_with fail
          refine (J4.out).mono ?_
          rintro e w4 ⟨rfl, hb⟩
          have HO5 := Lib.hid (HO4.out.later hb)
          have HB5 := Lib.hid (HB4.out.trans (hb.mono HB4.out.size))
          clear hb J4 HO4 HB4 HS4 y0
          go_wp2_with fail
          go_region
          go_wp2_with fail
          refine bodyPost_ret (v := .tuple #[.slice (some ⟨g, 0, none⟩) n xc, .bool false]) (by simp [results, Tryz.results16, go_sem]) rfl ?_
          exact ⟨_, by rw [HF.out.1], by rw [HF.out.2, HNN.out]; exact HO5.out.later ((Below.refl _ _).drew), HB5.out.trans ((Below.refl _ _).drew.mono HB5.out.size)⟩
        | true =>
          have HF := Lib.hid (rec_yes (P := P) HRD.out (.inr ⟨rfl, ht⟩))
          go_enter Tryz.func16, Tryz.ntmps16
          go_wp2_with fail
          refine (jc.out).mono ?_
          rintro e w1 ⟨u, rfl, ho, hb⟩
          obtain ⟨xa, xc, rfl⟩ := ho.shape
          have J := Lib.hid (JR.out w1 (HT.out.below hb) (HM.out.below hb))
          have HO1 := Lib.hid ho
          have HB1 := Lib.hid hb
          clear ho hb jc
          go_wp2_with fail
          refine (J.out).mono ?_
          rintro e w2 ⟨rfl, hb⟩
          have HO := Lib.hid (HO1.out.later hb)
          have HB := Lib.hid (HB1.out.trans (hb.mono HB1.out.size))
          clear hb J HO1 HB1 JR
          obtain ⟨g, c, hv, _⟩ := HO.out.there (Nat.pos_of_ne_zero hP0)
          injection hv with hv1 hv2 hv3
          subst hv1 hv3
          clear hv2 hP0 hPn
          obtain ⟨n, hn⟩ : ∃ n, n = P.length := ⟨_, rfl⟩
          rw [← hn]
          have hA := (Below.refl w2.heap.size w2).alloc (Nat.le_refl _) (.cells #[.int .i64 (i : Int), .int .i64 (n : Int), str d] 75)
          have HO3 := Lib.hid (HO.out.later hA)
          have HB3 := Lib.hid (HB.out.trans (hA.mono HB.out.size))
          have HS3 := Lib.hid (HS.out.below HB3.out)
          have HR3 := Lib.hid (BoxC.new w2 75 #[.int .i64 (i : Int), .int .i64 (n : Int), str d])
          clear hA HO HB
          have hz3 := HB3.out.size
          have J3 := Lib.hid (store_yes w.heap.size g xc i P ⟨d.toArray⟩ s _ a0 a1 a2 HS3.out (HT.out.below HB3.out) hz3 HO3.out hi' (by omega) ht (by simp [ByteArray.size]; omega) (by simpa using HCH.out))
          rw [← hn] at J3
          have HNN := Lib.hid hn
          have hsl : (P.set i s).length = n := by simp [hn]
          clear ht hi' hin hn hz3
          go_wp2_with fail
          refine (J3.out).mono ?_
          rintro e w3 ⟨rfl, ho, hb⟩
          have HO4 := Lib.hid ho
          have HB4 := Lib.hid (HB3.out.trans hb)
          have HS4 := Lib.hid (HS.out.below HB4.out)
          clear hb ho J3 HO3 HB3 HS3 HR3
          have y0 := HS4.out.v0
          have J4 := Lib.hid (is_nil a0 w3)
          go_wp2_with fail
          refine (J4.out).mono ?_
          rintro e w4 ⟨rfl, rfl⟩
          clear J4 HS4 y0
          go_wp2_with fail
          go_region
          go_wp2_with fail
          refine bodyPost_ret (v := .tuple #[.slice (some ⟨g, 0, none⟩) n xc, .bool true]) (by simp [results, Tryz.results16, go_sem]) rfl ?_
          have e2 : recL P s = P.set i s := by rw [HF.out.2]; simp
          exact ⟨_, by rw [HF.out.1], by rw [e2]; exact HO4.out.later ((Below.refl _ _).drew), HB4.out.trans ((Below.refl _ _).drew.mono HB4.out.size)⟩
      · have HF := Lib.hid (rec_other (P := P) HRD.out (Nat.pos_of_ne_zero hP0) hPn)
        have hP0' := Nat.pos_of_ne_zero hP0
        clear hP0
        go_enter Tryz.func16, Tryz.ntmps16
        go_wp2_with fail
        refine (jc.out).mono ?_
        rintro e w1 ⟨u, rfl, ho, hb⟩
        obtain ⟨xa, xc, rfl⟩ := ho.shape
        have J := Lib.hid (JR.out w1 (HT.out.below hb) (HM.out.below hb))
        have HO1 := Lib.hid ho
        have HB1 := Lib.hid hb
        clear ho hb jc
        go_wp2_with fail
        refine (J.out).mono ?_
        rintro e w2 ⟨rfl, hb⟩
        have HO := Lib.hid (HO1.out.later hb)
        have HB := Lib.hid (HB1.out.trans (hb.mono HB1.out.size))
        clear hb J HO1 HB1 JR
        have hA := (Below.refl w2.heap.size w2).alloc (Nat.le_refl _) (.cells #[.int .i64 (i : Int), .int .i64 (n : Int), str d] 75)
        have HO3 := Lib.hid (HO.out.later hA)
        have HB3 := Lib.hid (HB.out.trans (hA.mono HB.out.size))
        have HS3 := Lib.hid (HS.out.below HB3.out)
        have HR3 := Lib.hid (BoxC.new w2 75 #[.int .i64 (i : Int), .int .i64 (n : Int), str d])
        clear hA HO HB
        have J3 := Lib.hid (store_other xa P.length xc i (n : Int) ⟨d.toArray⟩ _ a0 a1 a2 HS3.out hP0' hPn)
        clear hP0' hPn
        go_wp2_with fail
        refine (J3.out).mono ?_
        rintro e w3 ⟨rfl, hb⟩
        have HO4 := Lib.hid (HO3.out.later hb)
        have HB4 := Lib.hid (HB3.out.trans (hb.mono HB3.out.size))
        have HS4 := Lib.hid (HS3.out.below hb)
        clear hb J3 HO3 HB3 HS3 HR3
        have y0 := HS4.out.v0
        have J4 := Lib.hid (HS4.out.isOther1 i)
        go_wp2_with fail
        refine (J4.out).mono ?_
        rintro e w4 ⟨rfl, hb⟩
        have HO5 := Lib.hid (HO4.out.later hb)
        have HB5 := Lib.hid (HB4.out.trans (hb.mono HB4.out.size))
        clear hb J4 HO4 HB4 HS4 y0
        go_wp2_with fail
        go_region
        go_wp2_with fail
        refine bodyPost_ret (v := .tuple #[.slice xa P.length xc, .bool false]) (by simp [results, Tryz.results16, go_sem]) rfl ?_
        exact ⟨_, by rw [HF.out.1], by rw [HF.out.2]; exact HO5.out.later ((Below.refl _ _).drew), HB5.out.trans ((Below.refl _ _).drew.mono HB5.out.size)⟩
end Go.Proofs.YtpdpejlcilnafaaGreatDoor.kit
namespace Go.Proofs.YtpdpejlcilnafaaGreatDoor.kit
open Go.ChangeShapes Go.WideShapes Go.ChangeAt Go.RowKit
set_option linter.unusedVariables false

/-- the library's MaxLen and the three sentinels -/
def MS (w : World) : Prop := Mx w ∧ ∃ a0 a1 a2, Sen w a0 a1 a2
theorem MS.below {w w' : World} (h : MS w) (hb : Below w.heap.size w w') : MS w' := by
  obtain ⟨h1, a0, a1, a2, h2⟩ := h
  exact ⟨h1.below hb, a0, a1, a2, h2.below hb⟩
theorem gS0 : Tryz.prog.globalNamed "loop.example/g01926/impl.errNoPlaces" = some 0 := by kernel_rfl
theorem gS1 : Tryz.prog.globalNamed "loop.example/g01926/impl.errOtherTotal" = some 1 := by kernel_rfl
theorem gS2 : Tryz.prog.globalNamed "loop.example/g01926/impl.errTaken" = some 2 := by kernel_rfl
theorem gST0 : (Tryz.prog.globals[0]?).map (·.type) = some 82 := by kernel_rfl
theorem gST1 : (Tryz.prog.globals[1]?).map (·.type) = some 82 := by kernel_rfl
theorem gST2 : (Tryz.prog.globals[2]?).map (·.type) = some 82 := by kernel_rfl
theorem cellsES : Tryz.prog.cellsOf 261 = 1 := by kernel_rfl
theorem cellsStr : Tryz.prog.cellsOf 9 = 1 := by kernel_rfl
theorem starES : "*" ++ "errors.errorString" = "*errors.errorString" := by decide
theorem rowES (u : TypeId) (h : Tryz.prog.typeName? 3 u = some "*errors.errorString") : u = 236 :=
  typeName_ptr_named (nm := "errors.errorString") (by rw [starES]; kernel_rfl) (by kernel_rfl) (by decide) u (by rw [starES]; exact h)
theorem sen_of_laid {laid : List (String × DataW Unit)} {W : World}
    (he1 : laid.filter (fun x => x.1 == "loop.example/g01926/impl.errNoPlaces" || x.1 == "loop.example/g01926/impl.errOtherTotal") = [("loop.example/g01926/impl.errNoPlaces", Rows.laid_loop_example_g01926_impl_errNoPlaces), ("loop.example/g01926/impl.errOtherTotal", Rows.laid_loop_example_g01926_impl_errOtherTotal)])
    (he2 : laid.filter (fun x => x.1 == "loop.example/g01926/impl.errNoPlaces" || x.1 == "loop.example/g01926/impl.errTaken") = [("loop.example/g01926/impl.errNoPlaces", Rows.laid_loop_example_g01926_impl_errNoPlaces), ("loop.example/g01926/impl.errTaken", Rows.laid_loop_example_g01926_impl_errTaken)])
    (h : laidMetH Tryz.prog laid W) : ∃ a0 a1 a2, Sen W a0 a1 a2 := by
  have h1 := h.filter fun x => x.1 == "loop.example/g01926/impl.errNoPlaces" || x.1 == "loop.example/g01926/impl.errOtherTotal"
  have h2 := h.filter fun x => x.1 == "loop.example/g01926/impl.errNoPlaces" || x.1 == "loop.example/g01926/impl.errTaken"
  rw [he1] at h1
  rw [he2] at h2
  obtain ⟨a0, a1, _, _, c0, c1, t0, t1, hv0, hv1, _, _, _, _, _, _, hne, hb0, hb1⟩ := laid_sentinels2 (r := []) h1 gS0 gST0 gS1 gST1 Tryz.underlying82 rowES Tryz.underlying236 Tryz.underlying261 rfl rfl Tryz.underlying9 cellsES cellsStr
  obtain ⟨b0, a2, _, _, d0, c2, u0, t2, hw0, hv2, _, _, _, _, _, _, hne2, _, hb2⟩ := laid_sentinels2 (r := []) h2 gS0 gST0 gS2 gST2 Tryz.underlying82 rowES Tryz.underlying236 Tryz.underlying261 rfl rfl Tryz.underlying9 cellsES cellsStr
  have e : b0 = a0 := by
    have := hw0.symm.trans hv0
    simpa using this
  rw [e] at hne2
  exact ⟨a0, a1, a2, by simpa using World.var?_cell gS0 hv0 0, by simpa using World.var?_cell gS1 hv1 0, by simpa using World.var?_cell gS2 hv2 0, Ne.symm hne, Ne.symm hne2, ⟨_, _, hb0⟩, ⟨_, _, hb1⟩, ⟨_, _, hb2⟩⟩
theorem trodVars_three {H : Type} {enc : TypeId × Value → H} {P : Program} {w : World} {sp : Nat → Bool} {n0 n1 n2 : String} {gs : List (DataW H)} {ps : List MemPlace} (h : DataW.TrodVars enc P w sp [n0, n1, n2] gs ps) : ∃ g1 g2 g3, gs = [g1, g2, g3] := by
  cases gs with
  | nil => exact h.elim
  | cons g1 gs =>
    obtain ⟨_, _, _, _, _, _, _, _, _, _, h, _⟩ := h
    cases gs with
    | nil => exact h.elim
    | cons g2 gs =>
      obtain ⟨_, _, _, _, _, _, _, _, _, _, h, _⟩ := h
      cases gs with
      | nil => exact h.elim
      | cons g3 gs =>
        obtain ⟨_, _, _, _, _, _, _, _, _, _, h, _⟩ := h
        cases gs with
        | nil => exact ⟨g1, g2, g3, rfl⟩
        | cons _ _ => exact h.elim
def laidText : DataW Unit → ByteArray
  | .iface _ (.ptr (.agg [.lit (.string t)])) => ⟨t.toArray⟩
  | _ => .empty
noncomputable def lowSen : Nat := (World.holding Tryz.prog default ⟨#[], #[], []⟩).heap.size
def laidErr (heap : Array Obj) (g k : Nat) : Array Obj :=
  heap.modify g fun
    | .cells _ t frozen => .cells #[.iface 236 (.pointer (some ⟨k, 0, none⟩))] t frozen
    | o => o
def senObjs : Array Obj := #[.cells #[.string (laidText Rows.laid_loop_example_g01926_impl_errNoPlaces)] 261, .cells #[.string (laidText Rows.laid_loop_example_g01926_impl_errOtherTotal)] 261, .cells #[.string (laidText Rows.laid_loop_example_g01926_impl_errTaken)] 261]
noncomputable def laidSen (heap : Array Obj) : Array Obj := laidErr (laidErr (laidErr heap 0 lowSen) 1 (lowSen + 1)) 2 (lowSen + 2)
theorem recL_len (P : List ByteArray) (s : ByteArray) (h : P.length ≤ 4194304) : (recL P s).length ≤ 4194304 := by
  unfold recL
  split
  · rcases readC_cases s.data.toList with ⟨hr, _⟩ | ⟨i, n, d, hrd, hr⟩
    · rw [hr]; simp; omega
    · have hk := hrd.1
      unfold okK at hk
      rw [hr]; simp; omega
  · exact h
theorem implReceiveChunkM (b : Nat) (v : Value) (P : List ByteArray) (s : ByteArray) (w : World) (h : P.length ≤ 4194304) (hs : sumW P P.length ≤ 1048576) (o : OwnW b w v P) (hs2 : s.size ≤ 1048576) (hT : Tab w) (hM : MS w) :
    Calls Tryz.prog 16 #[v, .string s] w fun e w' => ∃ u, e = .returned (.tuple #[u, .bool (recOk P s)]) ∧ OwnW w.heap.size w' u (recL P s) ∧ Below w.heap.size w w' := by
  obtain ⟨h1, a0, a1, a2, h2⟩ := hM
  exact implReceiveChunk b v P s w a0 a1 a2 h hs o hs2 hT h1 h2
end Go.Proofs.YtpdpejlcilnafaaGreatDoor.kit
