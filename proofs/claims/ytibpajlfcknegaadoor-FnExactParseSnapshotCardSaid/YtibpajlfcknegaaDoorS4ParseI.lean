/-
  Chapter 4: how impl's ParseMachine reads a session.
-/
import Derived.Test.YtibpajlfcknegaaDoorS4Any
import Derived.Test.YtibpajlfcknegaaDoorParseInts
import Derived.Test.YtibpajlfcknegaaDoorSplitW
import Derived.Deep.RegionWith
namespace Go.Proofs.YtibpajlfcknegaaDoor.kit
open Go.ChangeShapes Go.WideShapes Go.ChangeAt Go.RowKit
set_option linter.unusedVariables false
set_option linter.unusedSimpArgs false

theorem cutAtM (b : List UInt8) (w : World) (h : b.length ≤ 1048576) (hM : Mx w) :
    Calls Tryd.prog 49 #[str b, .string ⟨#[46]⟩] w fun e w' => e = .returned (.tuple #[str (Lib.cut b [46]).1, str (Lib.cut b [46]).2.1, .bool (Lib.cut b [46]).2.2]) ∧ Below w.heap.size w w' := by
  obtain ⟨m, hm⟩ := hM
  refine (Tryd.strings_Cut ⟨b.toArray⟩ ⟨#[46]⟩ m w (by rw [size_mk]; omega) hm).mono ?_
  rintro e w' ⟨rfl, n, rfl⟩
  exact ⟨rfl, below_drewN (Below.refl _ _) _⟩
def pxV (p : List UInt8) : Value := sessV (if pxOk p = true then px p else (0, 0, false, 0))
theorem pxV_no {p : List UInt8} (h : pxOk p = false) : pxV p = .agg #[.int .i64 0, .int .i64 0, .bool false, .int .i64 0] := by unfold pxV; rw [h]; rfl
theorem pxV_yes {p : List UInt8} (h : pxOk p = true) : pxV p = sessV (px p) := by unfold pxV; rw [if_pos h]
set_option maxRecDepth 100000 in
set_option maxHeartbeats 8000000 in
theorem implParseSession (p : List UInt8) (w : World) (hp : p.length ≤ 1048576) (hT : Tab w) (hM : Mx w) :
    Calls Tryd.prog 28 #[str p] w fun e w' => e = .returned (.tuple #[pxV p, .bool (pxOk p)]) ∧ Below w.heap.size w w' := by
  obtain ⟨W, hW⟩ : ∃ W, W = w.alloc (.cells #[.int .i64 0, .int .i64 0, .bool false, .int .i64 0] 48) := ⟨_, rfl⟩
  have hB : Below w.heap.size w W := by rw [hW]; exact (Below.refl _ _).alloc (Nat.le_refl _) _
  have HR := Lib.hid (show BoxC W w.heap.size 48 #[.int .i64 0, .int .i64 0, .bool false, .int .i64 0] by rw [hW]; exact BoxC.new _ _ _)
  have HB := Lib.hid hB
  have HW := Lib.hid hW
  have HT := Lib.hid hT
  have HM := Lib.hid hM
  have hc := cut_len p
  have jc := fun W' (h : Mx W') => cutAtM p W' hp h
  have HE := Lib.hid (show pxOk p = (decide (0 ≤ Lib.indexAny (restX p) [43, 45]) && (parOk (Lib.cut p [46]).1 && (parOk ((restX p).take (Lib.indexAny (restX p) [43, 45]).toNat) && parOk ((restX p).drop ((Lib.indexAny (restX p) [43, 45]).toNat + 1))))) from rfl)
  have HV := Lib.hid (show px p = (parN (Lib.cut p [46]).1, parN ((restX p).take (Lib.indexAny (restX p) [43, 45]).toNat), (restX p).getD (Lib.indexAny (restX p) [43, 45]).toNat 0 == 43, parN ((restX p).drop ((Lib.indexAny (restX p) [43, 45]).toNat + 1))) from rfl)
  have HG := fun h => any_at (l := restX p) h
  have ja := fun W' => indexAnyPM ⟨(restX p).toArray⟩ W' (by rw [size_mk]; unfold restX; omega)
  simp only at ja
  rw [show (Lib.cut p [46]).2.1 = restX p from rfl] at jc hc
  generalize (Lib.cut p [46]).2.2 = pf at *
  generalize (Lib.cut p [46]).1 = pa at *
  generalize restX p = rs at *
  generalize Lib.indexAny rs [43, 45] = sg0 at *
  unfold pmStr at ja
  have JC := Lib.hid jc
  have JA := Lib.hid ja
  have hla : pa.length ≤ 1048576 := by omega
  have hlr : rs.length ≤ 1048576 := by omega
  clear hB hW hT hM jc ja hc
  go_enter Tryd.func28, Tryd.ntmps28
  go_wp2_with fail
  rw [← HW.out]
  refine (JC.out _ (HM.out.below HB.out)).mono ?_
  rintro e w1 ⟨rfl, hb⟩
  replace HR := Lib.hid (HR.out.later hb)
  replace HB := Lib.hid (HB.out.trans (hb.mono HB.out.size))
  clear hb HW JC
  go_wp2_with fail
  refine (JA.out _).mono ?_
  rintro e w2 ⟨rfl, hb⟩
  replace HR := Lib.hid (HR.out.later hb)
  replace HB := Lib.hid (HB.out.trans (hb.mono HB.out.size))
  clear hb JA
  by_cases h0 : 0 ≤ sg0
  · obtain ⟨k, hk, hkl, hb⟩ := HG h0
    subst hk
    obtain ⟨rb, rfl⟩ : ∃ rb : ByteArray, rs = rb.data.toList := ⟨⟨rs.toArray⟩, by simp⟩
    have hlb : rb.data.toList.length = rb.size := by rw [Array.length_toList]; rfl
    rw [hlb] at hkl hlr
    have E1 := Lib.hid (show Value.string (rb.extract 0 k) = str (rb.data.toList.take k) by rw [ext_str]; simp)
    have E2 := Lib.hid (show Value.string (rb.extract (k + 1) rb.size) = str (rb.data.toList.drop (k + 1)) by rw [ext_str, List.take_of_length_le (by rw [List.length_drop, hlb]; exact Nat.le_refl _)])
    have k1 : (0 : Int) ≤ (k : Int) := by omega
    have k2 : (k : Int) ≤ (rb.size : Int) := by omega
    have k3 : (k : Int) + 1 ≤ (rb.size : Int) := by omega
    have k4 : (0 : Int) ≤ (k : Int) + 1 := by omega
    have k5 : ((k : Int) + 1).toNat = k + 1 := by omega
    have k6 : IntKind.i64.wrap ((k : Int) + 1) = (k : Int) + 1 := IntWalk.i64_in _ (by omega)
    have k7 : k ≤ rb.size := by omega
    have k8 : k + 1 ≤ rb.size := by omega
    have hbL : Below w2.heap.size w2 (w2.alloc (.cells #[str pa, .string (rb.extract 0 k), .string (rb.extract (k + 1) rb.size)] 9)).drew := ((Below.refl _ _).alloc (Nat.le_refl _) _).drew
    have hat : AtP (w2.alloc (.cells #[str pa, .string (rb.extract 0 k), .string (rb.extract (k + 1) rb.size)] 9)).drew (some ⟨w2.heap.size, 0, none⟩) [pa, rb.data.toList.take k, rb.data.toList.drop (k + 1)] := fun j hj => by
      refine ⟨_, rfl, by show w2.heap.size < (w2.alloc _).heap.size; simp, ?_⟩
      have hadd : (⟨w2.heap.size, 0, none⟩ : Addr).add j = ⟨w2.heap.size, j, none⟩ := by unfold Addr.add; split <;> simp_all
      show (w2.alloc _).cell? _ = _
      rw [hadd, World.cell?_alloc_at _ _ _ _ rfl, E1.out, E2.out]
      match j, hj with
      | 0, _ => rfl
      | 1, _ => rfl
      | 2, _ => rfl
    have HBL := Lib.hid (HB.out.trans (hbL.mono HB.out.size))
    have PI := Lib.hid (parseInts (some ⟨w2.heap.size, 0, none⟩) 3 3 [pa, rb.data.toList.take k, rb.data.toList.drop (k + 1)] _ rfl (by omega)
      (fun j => by match j with
        | 0 => exact hla
        | 1 => show (rb.data.toList.take k).length ≤ _; rw [List.length_take]; omega
        | 2 => show (rb.data.toList.drop (k + 1)).length ≤ _; rw [List.length_drop]; omega
        | (n + 3) => simp) hat (HT.out.below HBL.out))
    have HLL := Lib.hid hbL
    clear hat hbL
    have g0 : decide ((k : Int) < 0) = false := decide_eq_false (by omega)
    go_upto_region 5 with (fail)
    go_cut [8, 9] (fun b c wx => ∃ v, b = v ∧ c = .bool (allPar [pa, rb.data.toList.take k, rb.data.toList.drop (k + 1)]) ∧ OwnI w.heap.size wx v (numsOf [pa, rb.data.toList.take k, rb.data.toList.drop (k + 1)]) ∧ Below w2.heap.size w2 wx)
    case first =>
      go_region_with (go_at_call 38; refine PI.out.mono ?_; rintro e w3 ⟨v, rfl, ho, hb⟩)
      all_goals
        go_wp2_with fail
        go_meet
        exact ⟨v, rfl, rfl, OwnI.mono ho HBL.out.size, HLL.out.trans (hb.mono HLL.out.size)⟩
    case rest =>
      obtain ⟨v, rfl, rfl, ho, hb⟩ := hcut
      replace HR := Lib.hid (HR.out.later hb)
      replace HB := Lib.hid (HB.out.trans (hb.mono HB.out.size))
      clear hb PI HLL HBL
      have hall : allPar [pa, rb.data.toList.take k, rb.data.toList.drop (k + 1)] = (parOk pa && (parOk (rb.data.toList.take k) && parOk (rb.data.toList.drop (k + 1)))) := by simp [allPar]
      rw [Int.toNat_natCast] at HE HV
      have HE2 := Lib.hid (show pxOk p = allPar [pa, rb.data.toList.take k, rb.data.toList.drop (k + 1)] by rw [HE.out, hall, decide_eq_true (show (0 : Int) ≤ (k : Int) by omega), Bool.true_and])
      cases ha : allPar [pa, rb.data.toList.take k, rb.data.toList.drop (k + 1)] with
      | false =>
        rw [ha] at HE2
        have HF := Lib.hid HE2.out
        obtain ⟨y, q, rfl⟩ := ho.shape
        clear hall ha ho
        have r0 := HR.out.c 0 rfl
        have r1 := HR.out.c 1 rfl
        have r2 := HR.out.c 2 rfl
        have r3 := HR.out.c 3 rfl
        have f0 := HR.out.f 0
        have f1 := HR.out.f 1
        have f2 := HR.out.f 2
        have f3 := HR.out.f 3
        go_wp2_with fail
        refine bodyPost_ret (v := .tuple #[.agg #[.int .i64 0, .int .i64 0, .bool false, .int .i64 0], .bool false]) (by simp [results, Tryd.results28, go_sem, r0, r1, r2, r3]) rfl ?_
        exact ⟨by rw [pxV_no HF.out, HF.out], (((HB.out.setCell (p := ⟨w.heap.size, 0, none⟩) (Nat.le_refl _) _).setCell (p := ⟨w.heap.size, 1, none⟩) (Nat.le_refl _) _).setCell (p := ⟨w.heap.size, 2, none⟩) (Nat.le_refl _) _).setCell (p := ⟨w.heap.size, 3, none⟩) (Nat.le_refl _) _⟩
      | true =>
        have hnum : numsOf [pa, rb.data.toList.take k, rb.data.toList.drop (k + 1)] = [parN pa, parN (rb.data.toList.take k), parN (rb.data.toList.drop (k + 1))] := by unfold numsOf; rw [ha]; rfl
        rw [ha] at HE2
        rw [hnum] at ho
        obtain ⟨g, cp, rfl, hc3, hcm, hc3', hc0, hc1, hc2⟩ := ho.three
        generalize parN pa = n0 at *
        generalize parN (rb.data.toList.take k) = n1 at *
        generalize parN (rb.data.toList.drop (k + 1)) = n2 at *
        have hbk : rb.data.toList.getD k 0 = rb[k] := by
          have hl : k < rb.data.toList.length := by rw [hlb]; exact hkl
          rw [List.getD_eq_getElem?_getD, List.getElem?_eq_getElem hl]
          rfl
        rw [hbk] at HV hb
        have E3 := Lib.hid (show Value.string (rb.extract k (k + 1)) = str [rb[k]] by
          rw [ext_str, show k + 1 - k = 1 by omega]
          have hl : k < rb.data.toList.length := by rw [hlb]; exact hkl
          rw [List.drop_eq_getElem_cons hl]
          rfl)
        clear hall ha ho hnum hbk
        have r0 := HR.out.c 0 rfl
        have r1 := HR.out.c 1 rfl
        have r2 := HR.out.c 2 rfl
        have r3 := HR.out.c 3 rfl
        have f0 := HR.out.f 0
        have f1 := HR.out.f 1
        have f2 := HR.out.f 2
        have f3 := HR.out.f 3
        have w0 : (0 : Int) < 3 := by omega
        have w1' : (1 : Int) < 3 := by omega
        have w2' : (2 : Int) < 3 := by omega
        go_upto_region 8 with (fail)
        go_region
        have HS3 : Hid (((rb.extract k (k + 1)).toList == [43]) = (rb[k] == 43)) := Lib.hid (by
          have e : (rb.extract k (k + 1)).data.toList = [rb[k]] := by
            have := E3.out
            injection this with this
            rw [this]
          rw [ByteArray.toList_eq, e]
          simp)
        have hbA := ((Below.refl wc.heap.size wc).alloc (Nat.le_refl _) (.cells #[.bool ((rb.extract k (k + 1)).toList == [43]), .int .i64 n2] 46)).drew
        have HBW := Lib.hid HB.out
        have HRW := Lib.hid HR.out
        have hrl := HR.out.lt
        have hrn : w.heap.size ≠ wc.heap.size := Nat.ne_of_lt hrl
        have hrm : wc.heap.size ≠ w.heap.size := Nat.ne_of_gt hrl
        replace HR := Lib.hid (HR.out.later hbA)
        replace HB := Lib.hid (HB.out.trans (hbA.mono HB.out.size))
        have y0 := (hbA.cell (p := ⟨g, 0, none⟩) hc3').trans hc0
        have y1 := (hbA.cell (p := ⟨g, 1, none⟩) hc3').trans hc1
        have s0 := HR.out.c 0 rfl
        have s1 := HR.out.c 1 rfl
        have s2 := HR.out.c 2 rfl
        have s3 := HR.out.c 3 rfl
        have q0 := HR.out.f 0
        have q1 := HR.out.f 1
        have q2 := HR.out.f 2
        have q3 := HR.out.f 3
        clear hbA hc0 hc1 hc2
        go_upto_region 9 with (fail)
        go_region
        have HB4 := Lib.hid ((((HBW.out.setCell (p := ⟨w.heap.size, 0, none⟩) (Nat.le_refl _) (.int .i64 n0)).setCell (p := ⟨w.heap.size, 1, none⟩) (Nat.le_refl _) (.int .i64 n1)).setCell (p := ⟨w.heap.size, 2, none⟩) (Nat.le_refl _) (.bool ((rb.extract k (k + 1)).toList == [43]))).setCell (p := ⟨w.heap.size, 3, none⟩) (Nat.le_refl _) (.int .i64 n2))
        have HR4 := Lib.hid ((((HRW.out.put 0 (.int .i64 n0)).put 1 (.int .i64 n1)).put 2 (.bool ((rb.extract k (k + 1)).toList == [43]))).put 3 (.int .i64 n2))
        have HR9 := Lib.hid (HR4.out.later (((Below.refl _ _).alloc (Nat.le_refl _) (.cells #[.bool ((rb.extract k (k + 1)).toList == [43]), .int .i64 n2] 46)).drew).drew)
        clear r0 r1 r2 r3 s0 s1 s2 s3
        have z0 := HR9.out.c 0 rfl
        have z1 := HR9.out.c 1 rfl
        have z2 := HR9.out.c 2 rfl
        have z3 := HR9.out.c 3 rfl
        go_wp2_with fail
        refine bodyPost_ret (v := .tuple #[.agg #[.int .i64 n0, .int .i64 n1, .bool ((rb.extract k (k + 1)).toList == [43]), .int .i64 n2], .bool true]) (by simp [results, Tryd.results28, go_sem, z0, z1, z2, z3]) rfl ?_
        exact ⟨by rw [pxV_yes HE2.out, HE2.out, HV.out, HS3.out], ((HB4.out.alloc HB4.out.size _).drew).drew⟩
  · have HF := Lib.hid (show pxOk p = false by rw [HE.out, decide_eq_false h0]; rfl)
    have g0 : decide (sg0 < 0) = true := decide_eq_true (by omega)
    clear h0 HG
    have r0 := HR.out.c 0 rfl
    have r1 := HR.out.c 1 rfl
    have r2 := HR.out.c 2 rfl
    have r3 := HR.out.c 3 rfl
    have f0 := HR.out.f 0
    have f1 := HR.out.f 1
    have f2 := HR.out.f 2
    have f3 := HR.out.f 3
    go_wp2_with fail
    refine bodyPost_ret (v := .tuple #[.agg #[.int .i64 0, .int .i64 0, .bool false, .int .i64 0], .bool false]) (by simp [results, Tryd.results28, go_sem, r0, r1, r2, r3]) rfl ?_
    exact ⟨by rw [pxV_no HF.out, HF.out], (((HB.out.setCell (p := ⟨w.heap.size, 0, none⟩) (Nat.le_refl _) _).setCell (p := ⟨w.heap.size, 1, none⟩) (Nat.le_refl _) _).setCell (p := ⟨w.heap.size, 2, none⟩) (Nat.le_refl _) _).setCell (p := ⟨w.heap.size, 3, none⟩) (Nat.le_refl _) _⟩
end Go.Proofs.YtibpajlfcknegaaDoor.kit
