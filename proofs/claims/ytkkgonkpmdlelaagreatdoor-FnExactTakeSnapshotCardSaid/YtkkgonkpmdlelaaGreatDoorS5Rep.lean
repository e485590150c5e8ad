/-
  Chapter 5: what spec's and impl's ReplayLog return.
-/
import Derived.Test.YtkkgonkpmdlelaaGreatDoorAppLen
import Derived.Test.YtkkgonkpmdlelaaGreatDoorInvK
import Derived.Test.YtkkgonkpmdlelaaGreatDoorS4New
import Derived.Test.YtkkgonkpmdlelaaGreatDoorS5Log
import Derived.Deep.RegionWith
namespace Go.Proofs.YtkkgonkpmdlelaaGreatDoor.kit
open Go.ChangeShapes Go.WideShapes Go.ChangeAt Go.RowKit
set_option linter.unusedVariables false
set_option linter.unusedSimpArgs false

/-- a machine with an entry's operation applied -/
def appE1 (m : List Int × List Sess) (x : Ent) : List Int × List Sess := (appO m.1 m.2 x.c x.s x.k x.o x.d x.v, appS m.1 m.2 x.c x.s x.k x.o x.d x.v)
/-- the machine behind the first k entries -/
def rep (L : List Ent) : Nat → List Int × List Sess
  | 0 => (newO, newS)
  | k + 1 => appE1 (rep L k) (gE L k)
theorem rep_len (L : List Ent) : ∀ k, (rep L k).1.length ≤ 4194304 ∧ (rep L k).2.length ≤ 4194304
  | 0 => ⟨newO_len, newS_len⟩
  | k + 1 => ⟨appO_len _ _ _ _ _ _ _ _ (rep_len L k).1, appS_len _ _ _ _ _ _ _ _ (rep_len L k).2⟩
def replayO (L : List Ent) : List Int := if LOk L then (rep L L.length).1 else []
def replayS (L : List Ent) : List Sess := if LOk L then (rep L L.length).2 else []
theorem replayO_len (L : List Ent) : (replayO L).length ≤ 4194304 := by
  unfold replayO
  split
  · exact (rep_len L _).1
  · simp
theorem replayS_len (L : List Ent) : (replayS L).length ≤ 4194304 := by
  unfold replayS
  split
  · exact (rep_len L _).2
  · simp
/-- the machine in a box: its two rows -/
structure MBox (N : Nat) (w : World) (b : Nat) (m : List Int × List Sess) where
  y1 : Option Addr
  q1 : Nat
  y2 : Option Addr
  q2 : Nat
  box : Box2 w b 30 (.slice y1 m.1.length q1) (.slice y2 m.2.length q2)
  o1 : OwnI N w (.slice y1 m.1.length q1) m.1
  o2 : OwnS N w (.slice y2 m.2.length q2) m.2
set_option maxRecDepth 100000 in
set_option maxHeartbeats 4000000 in
theorem implReplayedA (a : Option Addr) (c : Nat) (L : List Ent) (w : World) (hl : L.length ≤ 2097152) (ha : AtE w a L) :
    Calls Tryz.prog 40 #[.slice a L.length c] w fun e w' => ∃ u1 u2, e = .returned (.agg #[u1, u2]) ∧ OwnI w.heap.size w' u1 (rep L L.length).1 ∧ OwnS w.heap.size w' u2 (rep L L.length).2 ∧ Below w.heap.size w w' := by
  have HA := Lib.hid ha
  clear ha
  have HB0 := Lib.hid ((Below.refl w.heap.size w).alloc (Nat.le_refl _) (.cells #[.slice none 0 0, .slice none 0 0] 30))
  have hR := Box2.new w 30 (.slice none 0 0) (.slice none 0 0)
  have J0 := Lib.hid (implNewMachine (w.alloc (.cells #[.slice none 0 0, .slice none 0 0] 30)))
  go_enter Tryz.func40, Tryz.ntmps40
  go_wp2_with fail
  refine J0.out.mono ?_
  rintro e w1 ⟨u1, u2, rfl, ho1, ho2, hb1⟩
  obtain ⟨z1, e1, rfl⟩ := ho1.shape
  obtain ⟨z2, e2, rfl⟩ := ho2.shape
  have HR1 := Lib.hid (hR.later hb1)
  have HB1 := Lib.hid (HB0.out.trans (hb1.mono HB0.out.size))
  have hz1 := HB1.out.size
  have hrx : w.heap.size < w1.heap.size := HR1.out.lt
  have HO1 := Lib.hid (OwnI.mono ho1 (show w.heap.size ≤ _ by simp))
  have HO2 := Lib.hid (OwnS.mono ho2 (show w.heap.size ≤ _ by simp))
  clear ho1 ho2 hb1 hR J0
  go_wp2_with fail
  go_loopw [5, 9] (fun _ i wr => ∃ k : Nat, k ≤ L.length ∧ i = .int .i64 k ∧ Hid (Box2 wr w.heap.size 30 (.slice none 0 0) (.slice none 0 0)) ∧ Hid (Nonempty (MBox w.heap.size wr w1.heap.size (rep L k))) ∧ Hid (Below w.heap.size w wr)) (fun _ i _ => L.length - (intOf i).toNat)
  case atStart =>
    have hb := (Below.refl w1.heap.size w1).alloc (Nat.le_refl _) (.cells #[.slice z1 newO.length e1, .slice z2 newS.length e2] 30)
    exact ⟨0, Nat.zero_le _, rfl, Lib.hid (HR1.out.later hb), Lib.hid ⟨⟨z1, e1, z2, e2, Box2.new _ _ _ _, HO1.out.later hb, HO2.out.later hb⟩⟩, Lib.hid (HB1.out.trans (hb.mono hz1))⟩
  case round =>
    obtain ⟨k, hk, rfl, HRr, HM, HQ⟩ := hrel
    obtain ⟨⟨z1, e1, z2, e2, hX, hoI, hoS⟩⟩ := HM.out
    have HXX := Lib.hid hX
    have HOI := Lib.hid hoI
    have HOS := Lib.hid hoS
    have hxl := hX.lt
    clear hoI hoS HM
    by_cases hlt : k < L.length
    · skip
      obtain ⟨g, o, rfl, hg, hc⟩ := HA.out k hlt
      obtain ⟨c0, c1, c2, c3, c4, c5, c6⟩ := hc.below HQ.out hg
      obtain ⟨xe, xc, xs, xk, xo, xd, xv, hx⟩ : ∃ xe xc xs xk xo xd xv, gE L k = ⟨xe, xc, xs, xk, xo, xd, xv⟩ := ⟨_, _, _, _, _, _, _, rfl⟩
      have HR := Lib.hid (show rep L (k + 1) = appE1 (rep L k) (gE L k) from rfl)
      obtain ⟨hl1, hl2⟩ := rep_len L k
      rw [hx] at c0 c1 c2 c3 c4 c5 c6 HR
      simp only [appE1] at c0 c1 c2 c3 c4 c5 c6 HR
      clear hx hc
      generalize rep L k = m at *
      have kx0 := hX.c0
      have kx1 := hX.c1
      clear hX
      have hne : w1.heap.size ≠ wr.heap.size := by omega
      have k3 : (0 : Int) ≤ (k : Int) := by omega
      have k5 : (k : Int) < (L.length : Int) := by omega
      have hbE := (Below.refl wr.heap.size wr).alloc (Nat.le_refl _) (.cells #[.int .i64 xe, .int .i64 xc, .int .i64 xs, .int .i64 xk, .int .i64 xo, .int .i64 xd, .int .i64 xv] 108)
      have kx0' := (hbE.cell (p := ⟨w1.heap.size, 0, none⟩) hxl).trans kx0
      have kx1' := (hbE.cell (p := ⟨w1.heap.size, 1, none⟩) hxl).trans kx1
      have HBE := Lib.hid hbE
      have J := Lib.hid (implApplyOp _ _ _ _ m.1 m.2 xc xs xk xo xd xv (wr.alloc (.cells #[.int .i64 xe, .int .i64 xc, .int .i64 xs, .int .i64 xk, .int .i64 xo, .int .i64 xd, .int .i64 xv] 108)) hl1 hl2 (HOI.out.later hbE) (HOS.out.later hbE))
      clear hbE
      go_wp2_with (go_at_call 83; refine J.out.mono ?_; rintro e w2 ⟨v1, v2, rfl, hv1, hv2, hb2⟩; obtain ⟨t1, s1, rfl⟩ := hv1.shape; obtain ⟨t2, s2, rfl⟩ := hv2.shape; have hX2 := (HXX.out.later HBE.out).later hb2; have kc0 := hX2.c0; have kc1 := hX2.c1; have kf0 := hX2.f 0; have kf1 := hX2.f 1)
      go_roundw
      case rel =>
        have hQ2 := HQ.out.trans ((HBE.out.trans (hb2.mono HBE.out.size)).mono HQ.out.size)
        have hz := HQ.out.size
        refine ⟨k + 1, by omega, by go_num, Lib.hid (Box2.keep ((HRr.out.later HBE.out).later hb2) (by omega) _ _), Lib.hid ⟨?_⟩, Lib.hid (below_set2 hQ2 (by omega) _ _)⟩
        rw [HR.out]
        exact ⟨t1, s1, t2, s2, hX2.set _ _, row_set2 (OwnI.mono hv1 (by simp; omega)) hX2 (by decide) _ _, row_set2 (OwnS.mono hv2 (by simp; omega)) hX2 (by decide) _ _⟩
      case measure => simp [intOf]; omega
    · obtain rfl : k = L.length := by omega
      have kx0 := hX.c0
      have kx1 := hX.c1
      have kr0 := HRr.out.c0
      have kr1 := HRr.out.c1
      have krf0 := HRr.out.f 0
      have krf1 := HRr.out.f 1
      clear hX hlt hk
      generalize hm : rep L L.length = m at *
      have HMM := Lib.hid hm
      clear hm
      go_wp2_with fail
      refine bodyPost_ret (v := .agg #[.slice z1 m.1.length e1, .slice z2 m.2.length e2]) (by simp [results, Tryz.results40, go_sem, kr0, kr1]) rfl ?_
      exact ⟨_, _, rfl, by rw [HMM.out]; exact row_set2 HOI.out HRr.out (by decide) _ _, by rw [HMM.out]; exact row_set2 HOS.out HRr.out (by decide) _ _, below_set2 HQ.out (Nat.le_refl _) _ _⟩
set_option maxRecDepth 100000 in
set_option maxHeartbeats 8000000 in
theorem specReplayLogA (a : Option Addr) (c : Nat) (L : List Ent) (w : World) (hl : L.length ≤ 2097152) (ha : AtE w a L) :
    Calls Tryz.prog 43 #[.slice a L.length c] w fun e w' => ∃ u1 u2, e = .returned (.tuple #[.agg #[u1, u2], .bool (decide (LOk L))]) ∧ OwnI w.heap.size w' u1 (replayO L) ∧ OwnS w.heap.size w' u2 (replayS L) ∧ Below w.heap.size w w' := by
  have HA := Lib.hid ha
  clear ha
  have HB0 := Lib.hid ((Below.refl w.heap.size w).alloc (Nat.le_refl _) (.cells #[.slice none 0 0, .slice none 0 0] 30))
  have hR := Box2.new w 30 (.slice none 0 0) (.slice none 0 0)
  have J0 := Lib.hid (specNewMachine (w.alloc (.cells #[.slice none 0 0, .slice none 0 0] 30)))
  by_cases he : LOk L
  · have HF1 := Lib.hid (show replayO L = (rep L L.length).1 by unfold replayO; rw [if_pos he])
    have HF2 := Lib.hid (show replayS L = (rep L L.length).2 by unfold replayS; rw [if_pos he])
    have HD := Lib.hid (decide_eq_true he)
    clear he
    go_enter Tryz.func43, Tryz.ntmps43
    go_wp2_with fail
    refine J0.out.mono ?_
    rintro e w1 ⟨u1, u2, rfl, ho1, ho2, hb1⟩
    obtain ⟨z1, e1, rfl⟩ := ho1.shape
    obtain ⟨z2, e2, rfl⟩ := ho2.shape
    have HR1 := Lib.hid (hR.later hb1)
    have HB1 := Lib.hid (HB0.out.trans (hb1.mono HB0.out.size))
    have hz1 := HB1.out.size
    have HO1 := Lib.hid (OwnI.mono ho1 (show w.heap.size ≤ _ by simp))
    have HO2 := Lib.hid (OwnS.mono ho2 (show w.heap.size ≤ _ by simp))
    clear ho1 ho2 hb1 hR J0
    have hb := (Below.refl w1.heap.size w1).alloc (Nat.le_refl _) (.cells #[.slice z1 newO.length e1, .slice z2 newS.length e2] 30)
    have HBX := Lib.hid hb
    have HBY := Lib.hid (HB1.out.trans (hb.mono hz1))
    have hX := Box2.new w1 30 (.slice z1 newO.length e1) (.slice z2 newS.length e2)
    have hr : w.heap.size < w1.heap.size := HR1.out.lt
    have C1 := Lib.hid (specIsLogA a c L (w1.alloc (.cells #[.slice z1 newO.length e1, .slice z2 newS.length e2] 30)) hl (HA.out.later HBY.out))
    clear hb
    rw [HD.out] at C1
    go_wp2_with fail
    refine C1.out.mono ?_
    rintro e w2 ⟨rfl, hb2⟩
    have HR2 := Lib.hid ((HR1.out.later HBX.out).later hb2)
    have HX2 := Lib.hid (hX.later hb2)
    have HB2 := Lib.hid (HBY.out.trans (hb2.mono HBY.out.size))
    have HP1 := Lib.hid ((HO1.out.later HBX.out).later hb2)
    have HP2 := Lib.hid ((HO2.out.later HBX.out).later hb2)
    clear hb2 hX C1
    go_wp2_with fail
    go_loopw [5] (fun i wr => ∃ k : Nat, k ≤ L.length ∧ i = .int .i64 k ∧ Hid (Box2 wr w.heap.size 30 (.slice none 0 0) (.slice none 0 0)) ∧ Hid (Nonempty (MBox w.heap.size wr w1.heap.size (rep L k))) ∧ Hid (Below w.heap.size w wr)) (fun i _ => L.length - (intOf i).toNat)
    case atStart => exact ⟨0, Nat.zero_le _, rfl, HR2, Lib.hid ⟨⟨z1, e1, z2, e2, HX2.out, HP1.out, HP2.out⟩⟩, HB2⟩
    case round =>
      obtain ⟨k, hk, rfl, HRr, HM, HQ⟩ := hrel
      clear HX2 HP1 HP2 HR2 HB2 HO1 HO2 HBX HBY
      obtain ⟨⟨z1, e1, z2, e2, hX, hoI, hoS⟩⟩ := HM.out
      have HXX := Lib.hid hX
      have HOI := Lib.hid hoI
      have HOS := Lib.hid hoS
      have hxl := hX.lt
      clear hoI hoS HM
      by_cases hlt : k < L.length
      · skip
        obtain ⟨g, o, rfl, hg, hc⟩ := HA.out k hlt
        obtain ⟨c0, c1, c2, c3, c4, c5, c6⟩ := hc.below HQ.out hg
        obtain ⟨xe, xc, xs, xk, xo, xd, xv, hx⟩ : ∃ xe xc xs xk xo xd xv, gE L k = ⟨xe, xc, xs, xk, xo, xd, xv⟩ := ⟨_, _, _, _, _, _, _, rfl⟩
        have HR := Lib.hid (show rep L (k + 1) = appE1 (rep L k) (gE L k) from rfl)
        obtain ⟨hl1, hl2⟩ := rep_len L k
        rw [hx] at c0 c1 c2 c3 c4 c5 c6 HR
        simp only [appE1] at c0 c1 c2 c3 c4 c5 c6 HR
        clear hx hc
        generalize rep L k = m at *
        have kx0 := hX.c0
        have kx1 := hX.c1
        clear hX
        have k3 : (0 : Int) ≤ (k : Int) := by omega
        have k5 : (k : Int) < (L.length : Int) := by omega
        have hbD : Below wr.heap.size wr wr.drew := (Below.refl _ _).drew
        have HBD := Lib.hid hbD
        have J := Lib.hid (specApplyOp _ _ _ _ m.1 m.2 xc xs xk xo xd xv wr.drew hl1 hl2 (HOI.out.later hbD) (HOS.out.later hbD))
        clear hbD
        go_wp2_with fail
        go_region_with (go_at_call 86; (with_reducible refine J.out.mono ?_); rintro e w2 ⟨v1, v2, rfl, hv1, hv2, hb2⟩; obtain ⟨t1, s1, rfl⟩ := hv1.shape; obtain ⟨t2, s2, rfl⟩ := hv2.shape; have hX2 := (HXX.out.later HBD.out).later hb2; have kc0 := hX2.c0; have kc1 := hX2.c1; have kf0 := hX2.f 0; have kf1 := hX2.f 1)
        all_goals
          clear c0 c1 c2 c3 c4 c5 c6 kx0 kx1
          go_wp2_with fail
          go_roundw
          case rel =>
            have hQ2 := HQ.out.trans ((HBD.out.trans (hb2.mono HBD.out.size)).mono HQ.out.size)
            have hz := HQ.out.size
            refine ⟨k + 1, by omega, by go_num, Lib.hid (Box2.keep ((HRr.out.later HBD.out).later hb2) (by omega) _ _), Lib.hid ⟨?_⟩, Lib.hid (below_set2 hQ2 (by omega) _ _)⟩
            rw [HR.out]
            exact ⟨t1, s1, t2, s2, hX2.set _ _, row_set2 (OwnI.mono hv1 (by simp; omega)) hX2 (by decide) _ _, row_set2 (OwnS.mono hv2 (by simp; omega)) hX2 (by decide) _ _⟩
          case measure => simp [intOf]; omega
      · obtain rfl : k = L.length := by omega
        have kx0 := hX.c0
        have kx1 := hX.c1
        have kr0 := HRr.out.c0
        have kr1 := HRr.out.c1
        have krf0 := HRr.out.f 0
        have krf1 := HRr.out.f 1
        clear hX hlt hk
        generalize hm : rep L L.length = m at *
        have HMM := Lib.hid hm
        clear hm
        go_wp2_with fail
        refine bodyPost_ret (v := .tuple #[.agg #[.slice z1 m.1.length e1, .slice z2 m.2.length e2], .bool true]) (by simp [results, Tryz.results43, go_sem, kr0, kr1]) rfl ?_
        exact ⟨_, _, by rw [HD.out], by rw [HF1.out]; exact row_set2 HOI.out HRr.out (by decide) _ _, by rw [HF2.out]; exact row_set2 HOS.out HRr.out (by decide) _ _, below_set2 HQ.out (Nat.le_refl _) _ _⟩
  · have HF1 := Lib.hid (show replayO L = [] by unfold replayO; rw [if_neg he])
    have HF2 := Lib.hid (show replayS L = [] by unfold replayS; rw [if_neg he])
    have HD := Lib.hid (decide_eq_false he)
    clear he
    go_enter Tryz.func43, Tryz.ntmps43
    go_wp2_with fail
    refine J0.out.mono ?_
    rintro e w1 ⟨u1, u2, rfl, ho1, ho2, hb1⟩
    obtain ⟨z1, e1, rfl⟩ := ho1.shape
    obtain ⟨z2, e2, rfl⟩ := ho2.shape
    have HR1 := Lib.hid (hR.later hb1)
    have HB1 := Lib.hid (HB0.out.trans (hb1.mono HB0.out.size))
    have hz1 := HB1.out.size
    have HO1 := Lib.hid (OwnI.mono ho1 (show w.heap.size ≤ _ by simp))
    have HO2 := Lib.hid (OwnS.mono ho2 (show w.heap.size ≤ _ by simp))
    clear ho1 ho2 hb1 hR J0
    have hb := (Below.refl w1.heap.size w1).alloc (Nat.le_refl _) (.cells #[.slice z1 newO.length e1, .slice z2 newS.length e2] 30)
    have HBX := Lib.hid hb
    have HBY := Lib.hid (HB1.out.trans (hb.mono hz1))
    have hX := Box2.new w1 30 (.slice z1 newO.length e1) (.slice z2 newS.length e2)
    have hr : w.heap.size < w1.heap.size := HR1.out.lt
    have C1 := Lib.hid (specIsLogA a c L (w1.alloc (.cells #[.slice z1 newO.length e1, .slice z2 newS.length e2] 30)) hl (HA.out.later HBY.out))
    clear hb
    rw [HD.out] at C1
    go_wp2_with fail
    refine C1.out.mono ?_
    rintro e w2 ⟨rfl, hb2⟩
    have HR2 := Lib.hid ((HR1.out.later HBX.out).later hb2)
    have HX2 := Lib.hid (hX.later hb2)
    have HB2 := Lib.hid (HBY.out.trans (hb2.mono HBY.out.size))
    have HP1 := Lib.hid ((HO1.out.later HBX.out).later hb2)
    have HP2 := Lib.hid ((HO2.out.later HBX.out).later hb2)
    clear hb2 hX C1
    have kr0 := HR2.out.c0
    have kr1 := HR2.out.c1
    have krf0 := HR2.out.f 0
    have krf1 := HR2.out.f 1
    go_wp2_with fail
    refine bodyPost_ret (v := .tuple #[.agg #[.slice none 0 0, .slice none 0 0], .bool false]) (by simp [results, Tryz.results43, go_sem, kr0, kr1]) rfl ?_
    exact ⟨_, _, by rw [HD.out], by rw [HF1.out]; exact World.ownsRow_nil _ _ _ _, by rw [HF2.out]; exact own_newS _ _, below_set2 HB2.out (Nat.le_refl _) _ _⟩
theorem specReplayLog (b : Nat) (v : Value) (L : List Ent) (w : World) (h : L.length ≤ 2097152) (o : OwnE b w v L) :
    Calls Tryz.prog 43 #[v] w fun e w' => ∃ u1 u2, e = .returned (.tuple #[.agg #[u1, u2], .bool (decide (LOk L))]) ∧ OwnI w.heap.size w' u1 (replayO L) ∧ OwnS w.heap.size w' u2 (replayS L) ∧ Below w.heap.size w w' := by
  obtain ⟨a, c, rfl, _, _, at1, _⟩ := o.form
  exact specReplayLogA a c L w h at1
end Go.Proofs.YtkkgonkpmdlelaaGreatDoor.kit
