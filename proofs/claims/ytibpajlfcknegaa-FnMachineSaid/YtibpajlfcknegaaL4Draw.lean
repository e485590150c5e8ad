/-
  The draws of chapter 4: a machine; what turns below the heap's old size is the cursor alone.
-/
import Derived.Test.YtibpajlfcknegaaL3Draw
import Derived.Test.YtibpajlfcknegaaAppLen
import Derived.Test.YtibpajlfcknegaaInvK
import Derived.Test.YtibpajlfcknegaaS4New
import Derived.Deep.RegionWith
namespace Go.Proofs.Ytibpajlfcknegaa.kit
open Go.ChangeShapes Go.WideShapes Go.ChangeAt Go.RowKit
set_option linter.unusedVariables false
set_option linter.unusedSimpArgs false

theorem OwnS.drew {g : Nat} {w w' : World} {base : Nat} {v : Value} {l : List Sess} (h : OwnS base w v l) (hd : Drew g w w') (hg : g < base) : OwnS base w' v l := own_drew h.row hd hg
theorem Box2.drew {g : Nat} {w w' : World} {b : Nat} {t : TypeId} {x y : Value} (h : Box2 w b t x y) (hd : Drew g w w') (hg : b ≠ g) : Box2 w' b t x y := (hd.1.block b h.lt (fun e => hg (Option.some.inj e))).trans h
theorem appO_three (L1 : List Int) (L2 : List Sess) (c s k o d v : Int) : (appO L1 L2 c s k o d v).length = L1.length := by
  unfold appO
  split
  · rw [setO_len]
  · rfl
theorem appS_more (L1 : List Int) (L2 : List Sess) (c s k o d v : Int) : (appS L1 L2 c s k o d v).length ≤ L2.length + 1 := by
  unfold appS
  split
  · exact insR_len _ _
  · omega
/-- the machine in a box: its two rows -/
structure MBoxD (N : Nat) (w : World) (b : Nat) (L : List Int) (M : List Sess) where
  y1 : Option Addr
  q1 : Nat
  y2 : Option Addr
  q2 : Nat
  box : Box2 w b 27 (.slice y1 L.length q1) (.slice y2 M.length q2)
  o1 : OwnI N w (.slice y1 L.length q1) L
  o2 : OwnS N w (.slice y2 M.length q2) M
theorem Drew.set2 {g b : Nat} {a w : World} (h : Drew g a w) (hb : a.heap.size ≤ b) (hg : g < a.heap.size) (u v : Value) : Drew g a ((w.setCell ⟨b, 0, none⟩ u).setCell ⟨b, 1, none⟩ v) := (h.set hb hg u).set hb hg v
set_option maxRecDepth 100000 in
set_option maxHeartbeats 8000000 in
theorem machine_any (g : Nat) (w : World) (hc : Cur g w) :
    Calls Try.prog 52 #[.pointer (some ⟨g, 0, none⟩)] w fun e w' => ∃ (u1 u2 : Value) (L : List Int) (M : List Sess), e = .returned (.agg #[u1, u2]) ∧ L.length = 3 ∧ M.length ≤ 5 ∧ OwnI w.heap.size w' u1 L ∧ OwnS w.heap.size w' u2 M ∧ Drew g w w' := by
  have hgs := hc.lt
  have hD0 := (Drew.refl hc).alloc (.cells #[.slice none 0 0, .slice none 0 0] 27)
  have hR := Box2.new w 27 (.slice none 0 0) (.slice none 0 0)
  have J0 := Lib.hid (specNewMachine (w.alloc (.cells #[.slice none 0 0, .slice none 0 0] 27)))
  go_enter Try.func52, Try.ntmps52
  go_wp2_with fail
  refine J0.out.mono ?_
  rintro e w1 ⟨u1, u2, rfl, ho1, ho2, hb1⟩
  obtain ⟨z1, e1, rfl⟩ := ho1.shape
  obtain ⟨z2, e2, rfl⟩ := ho2.shape
  have hz1 : w.heap.size ≤ w1.heap.size := by have := hb1.size; simp at this; omega
  have hrx : w.heap.size < w1.heap.size := (hR.later hb1).lt
  have hbX := (Below.refl w1.heap.size w1).alloc (Nat.le_refl _) (.cells #[.slice z1 newO.length e1, .slice z2 newS.length e2] 27)
  have hD1 := hD0.below (hb1.mono (by simp)) hgs
  have HR1 := Lib.hid ((hR.later hb1).later hbX)
  have HX1 := Lib.hid (Box2.new w1 27 (.slice z1 newO.length e1) (.slice z2 newS.length e2))
  have HO1 := Lib.hid ((OwnI.mono ho1 (show w.heap.size ≤ _ by simp)).later hbX)
  have HO2 := Lib.hid ((OwnS.mono ho2 (show w.heap.size ≤ _ by simp)).later hbX)
  have hD2 := hD1.alloc (.cells #[.slice z1 newO.length e1, .slice z2 newS.length e2] 27)
  have C6 := Lib.hid (below_small g 6 _ (by decide) (by decide) hD2.2)
  clear hb1 ho1 ho2 hD0 hD1 hbX hR J0
  go_wp2_with fail
  refine (C6.out).mono ?_
  rintro e w3 ⟨n, rfl, hn0, hn1, hd3⟩
  obtain ⟨n0, rfl⟩ := Int.eq_ofNat_of_zero_le hn0
  have hD3 := hD2.trans hd3
  have HR3 := Lib.hid (HR1.out.drew hd3 (by omega))
  have HX3 := Lib.hid (HX1.out.drew hd3 (by omega))
  have HO13 := Lib.hid (HO1.out.drew hd3 hgs)
  have HO23 := Lib.hid (HO2.out.drew hd3 hgs)
  clear C6 hd3 hD2 HR1 HX1 HO1 HO2
  go_wp2_with fail
  go_loopw [4] (fun i wr => ∃ (k : Nat) (L : List Int) (M : List Sess), k ≤ 5 ∧ i = .int .i64 k ∧ L.length = 3 ∧ M.length + k ≤ 5 ∧ Hid (Box2 wr w.heap.size 27 (.slice none 0 0) (.slice none 0 0)) ∧ Hid (Nonempty (MBoxD w.heap.size wr w1.heap.size L M)) ∧ Hid (Drew g w wr)) (fun i _ => (intOf i).toNat)
  case atStart => exact ⟨n0, newO, newS, by omega, rfl, by simp [newO], by simp [newS]; omega, HR3, Lib.hid ⟨⟨z1, e1, z2, e2, HX3.out, HO13.out, HO23.out⟩⟩, Lib.hid hD3⟩
  case round =>
    obtain ⟨k, L, M, hk, rfl, hL, hM, HRr, HMB, HQ⟩ := hrel
    obtain ⟨⟨z1, e1, z2, e2, hX, hoI, hoS⟩⟩ := HMB.out
    have HXX := Lib.hid hX
    have HOI := Lib.hid hoI
    have HOS := Lib.hid hoS
    have hxl := hX.lt
    have HL := Lib.hid hL
    clear hoI hoS HMB HX3 HO13 HO23 HR3 hD3 hL
    by_cases hlt : 0 < k
    · have t1 : decide ((k : Int) > 0) = true := decide_eq_true (by omega)
      have hw1 : IntKind.i64.wrap ((k : Int) - 1) = (k : Int) - 1 := IntWalk.i64_in _ (by omega)
      have kx0 := hX.c0
      have kx1 := hX.c1
      clear hX
      have hbD : Below wr.heap.size wr wr.drew := (Below.refl _ _).drew
      have hcD : Cur g wr.drew := Cur.below HQ.out.2 hbD HQ.out.2.lt
      have HDD := Lib.hid (show Drew g wr wr.drew from ⟨grown_drewN (grown_refl wr (some g)) 1, hcD⟩)
      have JO := Lib.hid (op_any g wr.drew hcD)
      have HBD := Lib.hid hbD
      clear hbD hcD
      have hg1 : w1.heap.size ≠ g := by omega
      have hg2 : w.heap.size ≠ g := by omega
      go_wp2_with fail
      go_region_with (first | (go_at_call 54; (with_reducible refine JO.out.mono ?_); rintro e w2 ⟨c, s, k', o, d, v, rfl, hd2⟩; unfold opV; have hdd := HDD.out.trans hd2; have hX2 := HXX.out.drew hdd hg1; have kc0 := hX2.c0; have kc1 := hX2.c1; have HI2 := Lib.hid (HOI.out.drew hdd hgs); have HS2 := Lib.hid (HOS.out.drew hdd hgs)) | (go_at_call 8; (with_reducible refine (specApplyOp _ _ _ _ L M c s k' o d v _ (by have := HL.out; omega) (by omega) HI2.out HS2.out).mono ?_); rintro e w4 ⟨v1, v2, rfl, hv1, hv2, hb4⟩; obtain ⟨t1', s1, rfl⟩ := hv1.shape; obtain ⟨t2', s2, rfl⟩ := hv2.shape; have hX4 := hX2.later hb4; have kd0 := hX4.c0; have kd1 := hX4.c1; have kf0 := hX4.f 0; have kf1 := hX4.f 1))
      all_goals
        clear kx0 kx1
        go_wp2_with fail
        go_roundw
        case rel =>
          have hz2 := hdd.1.size
          have hz := HQ.out.1.size
          have hD4 := (HQ.out.trans hdd).below (hb4.mono (by omega)) hgs
          refine ⟨k - 1, appO L M c s k' o d v, appS L M c s k' o d v, by omega, by congr 1; omega, by rw [appO_three]; exact HL.out, by have := appS_more L M c s k' o d v; omega, Lib.hid (Box2.keep ((HRr.out.drew hdd hg2).later hb4) (by omega) _ _), Lib.hid ⟨?_⟩, Lib.hid (hD4.set2 (by omega) hgs _ _)⟩
          exact ⟨t1', s1, t2', s2, hX4.set _ _, row_set2 (OwnI.mono hv1 (by omega)) hX4 (by decide) _ _, row_set2 (OwnS.mono hv2 (by omega)) hX4 (by decide) _ _⟩
        case measure => simp [intOf]; omega
    · obtain rfl : k = 0 := by omega
      have kx0 := hX.c0
      have kx1 := hX.c1
      have kr0 := HRr.out.c0
      have kr1 := HRr.out.c1
      have krf0 := HRr.out.f 0
      have krf1 := HRr.out.f 1
      clear hX hlt
      go_wp2_with fail
      refine bodyPost_ret (v := .agg #[.slice z1 L.length e1, .slice z2 M.length e2]) (by simp [results, Try.results52, go_sem, kr0, kr1]) rfl ?_
      exact ⟨_, _, L, M, rfl, HL.out, by omega, row_set2 HOI.out HRr.out (by decide) _ _, row_set2 HOS.out HRr.out (by decide) _ _, HQ.out.set2 (Nat.le_refl _) hgs _ _⟩
end Go.Proofs.Ytibpajlfcknegaa.kit
