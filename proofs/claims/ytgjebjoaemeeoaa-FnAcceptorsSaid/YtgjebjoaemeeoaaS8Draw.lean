/-
  The draws of chapter 8: a configuration; what turns below the heap's old size is the cursor alone.
-/
import Derived.Test.YtgjebjoaemeeoaaS2Draw
import Derived.Test.YtgjebjoaemeeoaaDrewC
import Derived.Test.YtgjebjoaemeeoaaC2Sets
import Derived.Test.YtgjebjoaemeeoaaConf
import Derived.Deep.RegionWith
namespace Go.Proofs.Ytgjebjoaemeeoaa.kit
open Go.ChangeShapes Go.WideShapes Go.ChangeAt Go.RowKit
set_option linter.unusedVariables false
set_option linter.unusedSimpArgs false

/-- a box stays while a row of another type is kept -/
theorem ownI_put {W : World} {base b : Nat} {v : Value} {l : List Int} {t : TypeId} {cs : Array Value} (hr : OwnI base W v l) (hb : BoxC W b t cs) (hte : t ≠ 3) (j : Nat) (u : Value) : OwnI base (W.setCell ⟨b, j, none⟩ u) v l := by
  refine ownsRow_setCell_other hr ?_ _
  rcases hr.2 with ⟨rfl, _⟩ | ⟨q, cap, cur, rfl, _, hgb, _⟩
  · simp [Value.ownBlock]
  · intro e'
    obtain rfl : q = b := by simpa [Value.ownBlock] using e'
    have := hgb.symm.trans hb
    simp at this
    exact hte this.2.symm
/-- the first k of a row -/
theorem OwnI.first {base g cap : Nat} {w : World} {l : List Int} (h : OwnI base w (.slice (some ⟨g, 0, none⟩) l.length cap) l) (k : Nat) (hk : k ≤ l.length) : OwnI base w (.slice (some ⟨g, 0, none⟩) k cap) (l.take k) := by
  have hlk : (l.take k).length = k := by rw [List.length_take]; exact Nat.min_eq_left hk
  obtain ⟨h1, h2⟩ := h
  refine ⟨by simp, ?_⟩
  rcases h2 with ⟨e, _⟩ | ⟨g', c', cur, e, a1, a2, a3, a4, a5, a6⟩
  · cases e
  · cases e
    refine .inr ⟨g, cap, cur, by rw [hlk], a1, a2, by omega, a4, a5, ?_⟩
    rw [hlk, Nat.mul_one, List.map_take, ← a6, Nat.mul_one, List.take_take, Nat.min_eq_left hk]
theorem without_len6 (a b : List Int) (h : a.length ≤ 6) : (without a b).length ≤ 6 := by
  unfold without
  have h1 := puts_length (a.filter fun x => decide (x ∉ b)) []
  have h2 := List.length_filter_le (fun x => decide (x ∉ b)) a
  simp only [List.length_nil, Nat.zero_add] at h1
  omega
theorem run_first (W : World) (g n cap : Nat) (h1 : 1 ≤ cap) : (Instr.slice 24 (.slice (some ⟨g, 0, none⟩) n cap) none (some (.int .i64 1)) none).run Try.prog W = .ok (.slice (some ⟨g, 0, none⟩) 1 cap) W := by
  have e := run_slice_h (P := Try.prog) W 24 (some ⟨g, 0, none⟩) n cap (by kernel_rfl) .i64 1 (by omega) (by omega)
  rw [e]
  have hs : (sizeOf (Try.prog.elem 24)).run Try.prog W = .ok 1 W := by kernel_rfl
  rw [hs]
  unfold sliced
  have hne : ¬ cap = 0 := by omega
  simp [hne, Addr.add]
/-- some configuration of this epoch, in memory of its own -/
def CfgAny (g : Nat) (z : Int) (w : World) (e : Ending) (w' : World) : Prop := ∃ (y : Int) (u1 u2 : Value) (R1 R2 : List Int), e = .returned (.agg #[.int .i64 z, .int .i64 y, u1, u2]) ∧ R1.length ≤ 6 ∧ R2.length ≤ 6 ∧ OwnI w.heap.size w' u1 R1 ∧ OwnI w.heap.size w' u2 R2 ∧ Drew g w w'
set_option maxRecDepth 100000 in
set_option maxHeartbeats 8000000 in
theorem config_any (g : Nat) (z : Int) (w : World) (hc : Cur g w) :
    Calls Try.prog 50 #[.pointer (some ⟨g, 0, none⟩), .int .i64 z] w (CfgAny g z w) := by
  have hgs := hc.lt
  have hD0 := (Drew.refl hc).alloc (.cells #[.int .i64 0, .int .i64 0, .slice none 0 0, .slice none 0 0] 26)
  have hR := BoxC.new w 26 #[.int .i64 0, .int .i64 0, .slice none 0 0, .slice none 0 0]
  have C1 := Lib.hid (below_small g 5 _ (by decide) (by decide) hD0.2)
  go_enter Try.func50, Try.ntmps50
  go_wp2_with fail
  refine (C1.out).mono ?_
  rintro e w1 ⟨y, rfl, hy0, hy1, hd1⟩
  have hng : w.heap.size ≠ g := by omega
  have hz1 : w.heap.size < w1.heap.size := by have := hd1.1.size; simp at this; omega
  have hbX := (Below.refl w1.heap.size w1).alloc (Nat.le_refl _) (.cells #[.int .i64 z, .int .i64 y, .slice none 0 0, .slice none 0 0] 26)
  have HR := Lib.hid ((hR.drewn hd1 hng).later hbX)
  have HX := Lib.hid (BoxC.new w1 26 #[.int .i64 z, .int .i64 y, .slice none 0 0, .slice none 0 0])
  have HD := Lib.hid ((hD0.trans hd1).alloc (.cells #[.int .i64 z, .int .i64 y, .slice none 0 0, .slice none 0 0] 26))
  obtain ⟨p, hp⟩ : ∃ p, p = w1.heap.size := ⟨_, rfl⟩
  obtain ⟨w2, hw2⟩ : ∃ q, q = w1.alloc (.cells #[.int .i64 z, .int .i64 y, .slice none 0 0, .slice none 0 0] 26) := ⟨_, rfl⟩
  rw [← hw2] at HR HX HD
  rw [← hp] at HX
  have HP := Lib.hid hp
  have HW := Lib.hid hw2
  have hpw : w.heap.size < p := by omega
  have hpg : p ≠ g := by omega
  clear hR C1 hd1 hbX hD0 hw2 hp
  go_upto_region 2 with (fail)
  rw [← HW.out, ← HP.out]
  clear HW
  have hb2 : Below w2.heap.size w2 w2.drew := (Below.refl _ _).drew
  have hcD : Cur g w2.drew := Cur.below HD.out.2 hb2 HD.out.2.lt
  have HDD := Lib.hid (show Drew g w2 w2.drew from ⟨grown_drewN (grown_refl w2 (some g)) 1, hcD⟩)
  have JS := Lib.hid (some_any g w2.drew hcD)
  have x1 := HX.out.c 1 rfl
  have x2 := HX.out.c 2 rfl
  have HB2 := Lib.hid hb2
  clear hb2 hcD
  go_cut [] (fun wx => ∃ (u : Value) (R : List Int), R.length ≤ 6 ∧ BoxC wx w.heap.size 26 #[.int .i64 0, .int .i64 0, .slice none 0 0, .slice none 0 0] ∧ BoxC wx p 26 #[.int .i64 z, .int .i64 y, u, .slice none 0 0] ∧ OwnI w.heap.size wx u R ∧ Drew g w wx)
  case first =>
    go_region_with (first
      | (go_at_call 65; (with_reducible refine JS.out.mono ?_); rintro e w3 ⟨v3, l3, rfl, hl3, ho3, hd3⟩; have hdd := HDD.out.trans hd3; have hX3 := HX.out.drewn hdd hpg; have y1 := hX3.c 1 rfl; have y2 := hX3.c 2 rfl)
      | (go_at_call 64; (with_reducible refine (specPut _ _ _ _ _ (by omega) ho3).mono ?_); rintro e w4 ⟨v4, rfl, ho4, hb4⟩; obtain ⟨a4, c4, rfl⟩ := ho4.shape; have hX4 := hX3.later hb4; have q2 := hX4.c 2 rfl; have f2 := hX4.f 2))
    all_goals
      clear y1 y2 x1 x2
      go_wp2_with fail
      go_meet
      refine ⟨_, _, ?_, BoxC.keep ((HR.out.drewn hdd hng).later hb4) (Nat.ne_of_lt hpw) 2 _, hX4.put 2 _, ownI_put (OwnI.mono ho4 (by have := hdd.1.size; have := HD.out.1.size; omega)) hX4 (by decide) 2 _, ((HD.out.trans hdd).below (hb4.mono (by have := hdd.1.size; have := HD.out.1.size; omega)) hgs).setC (by omega) hgs 2 _⟩
      have := put_length l3 y
      omega
  case rest =>
    obtain ⟨u, R, hRl, hR', hX', ho, hD⟩ := hcut
    obtain ⟨ua, uc, rfl⟩ := ho.shape
    replace HR := Lib.hid hR'
    replace HX := Lib.hid hX'
    replace HD := Lib.hid hD
    have HO := Lib.hid ho
    clear hR' hX' hD JS HDD HB2 x1 x2 ho
    have x1 := HX.out.c 1 rfl
    have x2 := HX.out.c 2 rfl
    have f2 := HX.out.f 2
    have hpc := HX.out.lt
    have hwc := HD.out.1.size
    have hpn : p ≠ wc.heap.size := Nat.ne_of_lt hpc
    by_cases h3 : 3 < R.length
    · have h3' : (3 : Int) < (R.length : Int) := by omega
      go_wp2_with fail
      obtain ⟨wq, hwq⟩ : ∃ q, q = (wc.setCell ⟨p, 2, none⟩ (.slice (some ⟨wc.heap.size, 0, none⟩) 1 1)).alloc (.cells #[.int .i64 y] 3) := ⟨_, rfl⟩
      obtain ⟨wp, hwp⟩ : ∃ q, q = wc.setCell ⟨p, 2, none⟩ (.slice (some ⟨wc.heap.size, 0, none⟩) 1 1) := ⟨_, rfl⟩
      have hbA : Below wp.heap.size wp (wp.alloc (.cells #[.int .i64 y] 3)) := (Below.refl _ _).alloc (Nat.le_refl _) _
      have hsz : wp.heap.size = wc.heap.size := by rw [hwp, World.size_setCell]
      have HRP := Lib.hid (show BoxC wp w.heap.size 26 #[.int .i64 0, .int .i64 0, .slice none 0 0, .slice none 0 0] by rw [hwp]; exact HR.out.keep (Nat.ne_of_lt hpw) 2 _)
      have HXP := Lib.hid (show BoxC wp p 26 #[.int .i64 z, .int .i64 y, .slice (some ⟨wc.heap.size, 0, none⟩) 1 1, .slice none 0 0] by rw [hwp]; exact HX.out.put 2 _)
      have HDP := Lib.hid (show Drew g w wp by rw [hwp]; exact HD.out.setC (Nat.le_of_lt hpw) hgs 2 _)
      have hwq2 : wq = wp.alloc (.cells #[.int .i64 y] 3) := by rw [hwq, hwp]
      rw [← hwq]
      have HOQ := Lib.hid (show OwnI w.heap.size wq (.slice (some ⟨wc.heap.size, 0, none⟩) 1 1) [y] by
        rw [hwq2, ← hsz]
        exact World.ownsRow_lit wp #[.int .i64 y] 1 (by omega) (by unfold maxLen; omega) rfl)
      replace HR := Lib.hid (show BoxC wq w.heap.size 26 #[.int .i64 0, .int .i64 0, .slice none 0 0, .slice none 0 0] by rw [hwq2]; exact HRP.out.later hbA)
      replace HX := Lib.hid (show BoxC wq p 26 #[.int .i64 z, .int .i64 y, .slice (some ⟨wc.heap.size, 0, none⟩) 1 1, .slice none 0 0] by rw [hwq2]; exact HXP.out.later hbA)
      replace HD := Lib.hid (show Drew g w wq by rw [hwq2]; exact HDP.out.below (hbA.mono (by omega)) hgs)
      obtain ⟨ub, hub⟩ : ∃ q, q = some (⟨wc.heap.size, 0, none⟩ : Addr) := ⟨_, rfl⟩
      rw [← hub] at HOQ HX
      replace HO := HOQ
      clear HOQ HXP HRP HDP hwq2 hsz hbA hwp hwq x1 x2 f2 h3 h3' hpc hwc hpn hub hRl
      obtain ⟨R0, hR0⟩ : ∃ q, q = [y] := ⟨_, rfl⟩
      have hRl : R0.length ≤ 6 := by rw [hR0]; simp
      rw [show [y] = R0 from hR0.symm] at HO
      have HX1 := Lib.hid (show BoxC wq p 26 #[.int .i64 z, .int .i64 y, .slice ub R0.length 1, .slice none 0 0] by rw [hR0]; exact HX.out)
      have HO1 := Lib.hid (show OwnI w.heap.size wq (.slice ub R0.length 1) R0 by have h := HO.out; rw [hR0] at h ⊢; exact h)
      clear HX HO hR0
      have HX := HX1
      have HO := HO1
      clear HX1 HO1
      obtain ⟨ua, rfl⟩ : ∃ q, q = ub := ⟨_, rfl⟩
      obtain ⟨uc, huc⟩ : ∃ q : Nat, q = 1 := ⟨_, rfl⟩
      rw [← huc] at HX HO
      obtain ⟨R, rfl⟩ : ∃ q, q = R0 := ⟨_, rfl⟩
      clear huc
      have CO := Lib.hid (once_any g 2 wq (by decide) (by decide) HD.out.2)
      refine CO.out.mono ?_
      rintro e w6 ⟨b, rfl, hd6⟩
      replace HX := Lib.hid (HX.out.drewn hd6 hpg)
      replace HR := Lib.hid (HR.out.drewn hd6 hng)
      replace HO := Lib.hid (HO.out.drew hd6 hgs)
      replace HD := Lib.hid (HD.out.trans hd6)
      clear CO hd6
      cases b with
      | false =>
        have HW2 := Lib.hid (show OwnI w.heap.size w6 (.slice none 0 0) [] from World.ownsRow_nil _ _ _ _)
        have hr0 := HR.out.c 0 rfl
        have hr1 := HR.out.c 1 rfl
        have hr2 := HR.out.c 2 rfl
        have hr3 := HR.out.c 3 rfl
        have hf0 := HR.out.f 0
        have hf1 := HR.out.f 1
        have hf2 := HR.out.f 2
        have hf3 := HR.out.f 3
        have hx0 := HX.out.c 0 rfl
        have hx1 := HX.out.c 1 rfl
        have hx2 := HX.out.c 2 rfl
        have hx3 := HX.out.c 3 rfl
        go_wp2_with fail
        refine bodyPost_ret (v := .agg #[.int .i64 z, .int .i64 y, .slice ua R.length uc, .slice none 0 0]) (by simp [results, Try.results50, go_sem, hr0, hr1, hr2, hr3]) rfl ?_
        refine ⟨y, _, _, R, [], rfl, hRl, by simp, ?_, ?_, ?_⟩
        · exact ownI_put (ownI_put (ownI_put (ownI_put HO.out HR.out (by decide) 0 _) (HR.out.put 0 _) (by decide) 1 _) ((HR.out.put 0 _).put 1 _) (by decide) 2 _) (((HR.out.put 0 _).put 1 _).put 2 _) (by decide) 3 _
        · exact ownI_put (ownI_put (ownI_put (ownI_put HW2.out HR.out (by decide) 0 _) (HR.out.put 0 _) (by decide) 1 _) ((HR.out.put 0 _).put 1 _) (by decide) 2 _) (((HR.out.put 0 _).put 1 _).put 2 _) (by decide) 3 _
        · exact (((HD.out.setC (Nat.le_refl _) hgs 0 _).setC (Nat.le_refl _) hgs 1 _).setC (Nat.le_refl _) hgs 2 _).setC (Nat.le_refl _) hgs 3 _
      | true =>
        have hb7 : Below w6.heap.size w6 w6.drew := (Below.refl _ _).drew
        have hc7 : Cur g w6.drew := Cur.below HD.out.2 hb7 HD.out.2.lt
        have HD7 := Lib.hid (show Drew g w6 w6.drew from ⟨grown_drewN (grown_refl w6 (some g)) 1, hc7⟩)
        have JS := Lib.hid (some_any g w6.drew hc7)
        have x2 := HX.out.c 2 rfl
        clear hb7 hc7
        go_upto_region 6 with (fail)
        go_cut [6] (fun b wx => ∃ (u : Value) (S : List Int), b = u ∧ S.length ≤ 6 ∧ BoxC wx w.heap.size 26 #[.int .i64 0, .int .i64 0, .slice none 0 0, .slice none 0 0] ∧ BoxC wx p 26 #[.int .i64 z, .int .i64 y, .slice ua R.length uc, .slice none 0 0] ∧ OwnI w.heap.size wx (.slice ua R.length uc) R ∧ OwnI w.heap.size wx u S ∧ Drew g w wx)
        case first =>
          go_region_with (first
            | (go_at_call 65; (with_reducible refine JS.out.mono ?_); rintro e w8 ⟨v8, l8, rfl, hl8, ho8, hd8⟩; have hdd := HD7.out.trans hd8; have hX8 := HX.out.drewn hdd hpg; have y2 := hX8.c 2 rfl; have HO8 := Lib.hid (HO.out.drew hdd hgs))
            | (go_at_call 66; (with_reducible refine (specWithoutServers _ _ _ _ _ _ _ (by omega) ho8 (by omega) HO8.out).mono ?_); rintro e w9 ⟨v9, rfl, ho9, hb9⟩; obtain ⟨a9, c9, rfl⟩ := ho9.shape))
          all_goals
            clear x2 y2
            go_wp2_with fail
            go_meet
            have hs6 : w.heap.size ≤ w8.heap.size := by have := hdd.1.size; have := HD.out.1.size; omega
            refine ⟨_, without l8 R, rfl, ?_, (HR.out.drewn hdd hng).later hb9, hX8.later hb9, HO8.out.later hb9, OwnI.mono ho9 hs6, (HD.out.trans hdd).below (hb9.mono hs6) hgs⟩
            exact without_len6 l8 R (by omega)
        case rest =>
          obtain ⟨u, S, rfl, hSl, hR9, hX9, hO9, hW9, hD9⟩ := hcut
          obtain ⟨sa, sc, rfl⟩ := hW9.shape
          replace HR := Lib.hid hR9
          replace HX := Lib.hid hX9
          replace HO := Lib.hid hO9
          replace HD := Lib.hid hD9
          have HS := Lib.hid hW9
          have f3 := HX.out.f 3
          have x3 := HX.out.c 3 rfl
          clear hR9 hX9 hO9 hW9 hD9 JS HD7 x2
          by_cases h0 : 0 < S.length
          · obtain ⟨sg', sc', hv, hs1, hs2, _, _⟩ := HS.out.there h0
            injection hv with e1 e2 e3
            subst e1 e3
            have h0' : (0 : Int) < (S.length : Int) := by omega
            have hc1 : (1 : Int) ≤ (sc : Int) := by omega
            have hc1' : 1 ≤ sc := by omega
            have HW1 := Lib.hid (HS.out.first 1 h0)
            have hsl := fun W => run_first W sg' S.length sc hc1'
            unfold maxLen at hs2
            have hnp : w.heap.size ≠ p := Nat.ne_of_lt hpw
            clear hs1 x3
            have hr0 := HR.out.c 0 rfl
            have hr1 := HR.out.c 1 rfl
            have hr2 := HR.out.c 2 rfl
            have hr3 := HR.out.c 3 rfl
            have hf0 := HR.out.f 0
            have hf1 := HR.out.f 1
            have hf2 := HR.out.f 2
            have hf3 := HR.out.f 3
            have hx0 := HX.out.c 0 rfl
            have hx1 := HX.out.c 1 rfl
            have hx2 := HX.out.c 2 rfl
            have hx3 := HX.out.c 3 rfl
            go_wp2_with fail
            have HW2 := Lib.hid (ownI_put HW1.out HX.out (by decide) 3 (.slice (some ⟨sg', 0, none⟩) 1 sc))
            replace HO := Lib.hid (ownI_put HO.out HX.out (by decide) 3 (.slice (some ⟨sg', 0, none⟩) 1 sc))
            replace HR := Lib.hid (HR.out.keep (Nat.ne_of_lt hpw) 3 (.slice (some ⟨sg', 0, none⟩) 1 sc))
            replace HD := Lib.hid (HD.out.setC (Nat.le_of_lt hpw) hgs 3 (.slice (some ⟨sg', 0, none⟩) 1 sc))
            refine bodyPost_ret (v := .agg #[.int .i64 z, .int .i64 y, .slice ua R.length uc, .slice (some ⟨sg', 0, none⟩) 1 sc]) (by simp [results, Try.results50, go_sem, hr0, hr1, hr2, hr3]) rfl ?_
            refine ⟨y, _, _, R, S.take 1, rfl, hRl, by simp; omega, ?_, ?_, ?_⟩
            · exact ownI_put (ownI_put (ownI_put (ownI_put HO.out HR.out (by decide) 0 _) (HR.out.put 0 _) (by decide) 1 _) ((HR.out.put 0 _).put 1 _) (by decide) 2 _) (((HR.out.put 0 _).put 1 _).put 2 _) (by decide) 3 _
            · exact ownI_put (ownI_put (ownI_put (ownI_put HW2.out HR.out (by decide) 0 _) (HR.out.put 0 _) (by decide) 1 _) ((HR.out.put 0 _).put 1 _) (by decide) 2 _) (((HR.out.put 0 _).put 1 _).put 2 _) (by decide) 3 _
            · exact (((HD.out.setC (Nat.le_refl _) hgs 0 _).setC (Nat.le_refl _) hgs 1 _).setC (Nat.le_refl _) hgs 2 _).setC (Nat.le_refl _) hgs 3 _
          · have hS0 : S = [] := List.eq_nil_of_length_eq_zero (by omega)
            subst hS0
            have HW2 := Lib.hid (show OwnI w.heap.size wc (.slice none 0 0) [] from World.ownsRow_nil _ _ _ _)
            clear x3 f3 HS h0
            have hr0 := HR.out.c 0 rfl
            have hr1 := HR.out.c 1 rfl
            have hr2 := HR.out.c 2 rfl
            have hr3 := HR.out.c 3 rfl
            have hf0 := HR.out.f 0
            have hf1 := HR.out.f 1
            have hf2 := HR.out.f 2
            have hf3 := HR.out.f 3
            have hx0 := HX.out.c 0 rfl
            have hx1 := HX.out.c 1 rfl
            have hx2 := HX.out.c 2 rfl
            have hx3 := HX.out.c 3 rfl
            go_wp2_with fail
            refine bodyPost_ret (v := .agg #[.int .i64 z, .int .i64 y, .slice ua R.length uc, .slice none 0 0]) (by simp [results, Try.results50, go_sem, hr0, hr1, hr2, hr3]) rfl ?_
            refine ⟨y, _, _, R, [], rfl, hRl, by simp, ?_, ?_, ?_⟩
            · exact ownI_put (ownI_put (ownI_put (ownI_put HO.out HR.out (by decide) 0 _) (HR.out.put 0 _) (by decide) 1 _) ((HR.out.put 0 _).put 1 _) (by decide) 2 _) (((HR.out.put 0 _).put 1 _).put 2 _) (by decide) 3 _
            · exact ownI_put (ownI_put (ownI_put (ownI_put HW2.out HR.out (by decide) 0 _) (HR.out.put 0 _) (by decide) 1 _) ((HR.out.put 0 _).put 1 _) (by decide) 2 _) (((HR.out.put 0 _).put 1 _).put 2 _) (by decide) 3 _
            · exact (((HD.out.setC (Nat.le_refl _) hgs 0 _).setC (Nat.le_refl _) hgs 1 _).setC (Nat.le_refl _) hgs 2 _).setC (Nat.le_refl _) hgs 3 _
    · have h3' : ¬ (3 : Int) < (R.length : Int) := by omega
      obtain ⟨wq, rfl⟩ : ∃ q, q = wc := ⟨_, rfl⟩
      go_wp2_with fail
      clear x1 x2 f2 h3 h3'
      have CO := Lib.hid (once_any g 2 wq (by decide) (by decide) HD.out.2)
      refine CO.out.mono ?_
      rintro e w6 ⟨b, rfl, hd6⟩
      replace HX := Lib.hid (HX.out.drewn hd6 hpg)
      replace HR := Lib.hid (HR.out.drewn hd6 hng)
      replace HO := Lib.hid (HO.out.drew hd6 hgs)
      replace HD := Lib.hid (HD.out.trans hd6)
      clear CO hd6
      cases b with
      | false =>
        have HW2 := Lib.hid (show OwnI w.heap.size w6 (.slice none 0 0) [] from World.ownsRow_nil _ _ _ _)
        have hr0 := HR.out.c 0 rfl
        have hr1 := HR.out.c 1 rfl
        have hr2 := HR.out.c 2 rfl
        have hr3 := HR.out.c 3 rfl
        have hf0 := HR.out.f 0
        have hf1 := HR.out.f 1
        have hf2 := HR.out.f 2
        have hf3 := HR.out.f 3
        have hx0 := HX.out.c 0 rfl
        have hx1 := HX.out.c 1 rfl
        have hx2 := HX.out.c 2 rfl
        have hx3 := HX.out.c 3 rfl
        go_wp2_with fail
        refine bodyPost_ret (v := .agg #[.int .i64 z, .int .i64 y, .slice ua R.length uc, .slice none 0 0]) (by simp [results, Try.results50, go_sem, hr0, hr1, hr2, hr3]) rfl ?_
        refine ⟨y, _, _, R, [], rfl, hRl, by simp, ?_, ?_, ?_⟩
        · exact ownI_put (ownI_put (ownI_put (ownI_put HO.out HR.out (by decide) 0 _) (HR.out.put 0 _) (by decide) 1 _) ((HR.out.put 0 _).put 1 _) (by decide) 2 _) (((HR.out.put 0 _).put 1 _).put 2 _) (by decide) 3 _
        · exact ownI_put (ownI_put (ownI_put (ownI_put HW2.out HR.out (by decide) 0 _) (HR.out.put 0 _) (by decide) 1 _) ((HR.out.put 0 _).put 1 _) (by decide) 2 _) (((HR.out.put 0 _).put 1 _).put 2 _) (by decide) 3 _
        · exact (((HD.out.setC (Nat.le_refl _) hgs 0 _).setC (Nat.le_refl _) hgs 1 _).setC (Nat.le_refl _) hgs 2 _).setC (Nat.le_refl _) hgs 3 _
      | true =>
        have hb7 : Below w6.heap.size w6 w6.drew := (Below.refl _ _).drew
        have hc7 : Cur g w6.drew := Cur.below HD.out.2 hb7 HD.out.2.lt
        have HD7 := Lib.hid (show Drew g w6 w6.drew from ⟨grown_drewN (grown_refl w6 (some g)) 1, hc7⟩)
        have JS := Lib.hid (some_any g w6.drew hc7)
        have x2 := HX.out.c 2 rfl
        clear hb7 hc7
        go_upto_region 6 with (fail)
        go_cut [6] (fun b wx => ∃ (u : Value) (S : List Int), b = u ∧ S.length ≤ 6 ∧ BoxC wx w.heap.size 26 #[.int .i64 0, .int .i64 0, .slice none 0 0, .slice none 0 0] ∧ BoxC wx p 26 #[.int .i64 z, .int .i64 y, .slice ua R.length uc, .slice none 0 0] ∧ OwnI w.heap.size wx (.slice ua R.length uc) R ∧ OwnI w.heap.size wx u S ∧ Drew g w wx)
        case first =>
          go_region_with (first
            | (go_at_call 65; (with_reducible refine JS.out.mono ?_); rintro e w8 ⟨v8, l8, rfl, hl8, ho8, hd8⟩; have hdd := HD7.out.trans hd8; have hX8 := HX.out.drewn hdd hpg; have y2 := hX8.c 2 rfl; have HO8 := Lib.hid (HO.out.drew hdd hgs))
            | (go_at_call 66; (with_reducible refine (specWithoutServers _ _ _ _ _ _ _ (by omega) ho8 (by omega) HO8.out).mono ?_); rintro e w9 ⟨v9, rfl, ho9, hb9⟩; obtain ⟨a9, c9, rfl⟩ := ho9.shape))
          all_goals
            clear x2 y2
            go_wp2_with fail
            go_meet
            have hs6 : w.heap.size ≤ w8.heap.size := by have := hdd.1.size; have := HD.out.1.size; omega
            refine ⟨_, without l8 R, rfl, ?_, (HR.out.drewn hdd hng).later hb9, hX8.later hb9, HO8.out.later hb9, OwnI.mono ho9 hs6, (HD.out.trans hdd).below (hb9.mono hs6) hgs⟩
            exact without_len6 l8 R (by omega)
        case rest =>
          obtain ⟨u, S, rfl, hSl, hR9, hX9, hO9, hW9, hD9⟩ := hcut
          obtain ⟨sa, sc, rfl⟩ := hW9.shape
          replace HR := Lib.hid hR9
          replace HX := Lib.hid hX9
          replace HO := Lib.hid hO9
          replace HD := Lib.hid hD9
          have HS := Lib.hid hW9
          have f3 := HX.out.f 3
          have x3 := HX.out.c 3 rfl
          clear hR9 hX9 hO9 hW9 hD9 JS HD7 x2
          by_cases h0 : 0 < S.length
          · obtain ⟨sg', sc', hv, hs1, hs2, _, _⟩ := HS.out.there h0
            injection hv with e1 e2 e3
            subst e1 e3
            have h0' : (0 : Int) < (S.length : Int) := by omega
            have hc1 : (1 : Int) ≤ (sc : Int) := by omega
            have hc1' : 1 ≤ sc := by omega
            have HW1 := Lib.hid (HS.out.first 1 h0)
            have hsl := fun W => run_first W sg' S.length sc hc1'
            unfold maxLen at hs2
            have hnp : w.heap.size ≠ p := Nat.ne_of_lt hpw
            clear hs1 x3
            have hr0 := HR.out.c 0 rfl
            have hr1 := HR.out.c 1 rfl
            have hr2 := HR.out.c 2 rfl
            have hr3 := HR.out.c 3 rfl
            have hf0 := HR.out.f 0
            have hf1 := HR.out.f 1
            have hf2 := HR.out.f 2
            have hf3 := HR.out.f 3
            have hx0 := HX.out.c 0 rfl
            have hx1 := HX.out.c 1 rfl
            have hx2 := HX.out.c 2 rfl
            have hx3 := HX.out.c 3 rfl
            go_wp2_with fail
            have HW2 := Lib.hid (ownI_put HW1.out HX.out (by decide) 3 (.slice (some ⟨sg', 0, none⟩) 1 sc))
            replace HO := Lib.hid (ownI_put HO.out HX.out (by decide) 3 (.slice (some ⟨sg', 0, none⟩) 1 sc))
            replace HR := Lib.hid (HR.out.keep (Nat.ne_of_lt hpw) 3 (.slice (some ⟨sg', 0, none⟩) 1 sc))
            replace HD := Lib.hid (HD.out.setC (Nat.le_of_lt hpw) hgs 3 (.slice (some ⟨sg', 0, none⟩) 1 sc))
            refine bodyPost_ret (v := .agg #[.int .i64 z, .int .i64 y, .slice ua R.length uc, .slice (some ⟨sg', 0, none⟩) 1 sc]) (by simp [results, Try.results50, go_sem, hr0, hr1, hr2, hr3]) rfl ?_
            refine ⟨y, _, _, R, S.take 1, rfl, hRl, by simp; omega, ?_, ?_, ?_⟩
            · exact ownI_put (ownI_put (ownI_put (ownI_put HO.out HR.out (by decide) 0 _) (HR.out.put 0 _) (by decide) 1 _) ((HR.out.put 0 _).put 1 _) (by decide) 2 _) (((HR.out.put 0 _).put 1 _).put 2 _) (by decide) 3 _
            · exact ownI_put (ownI_put (ownI_put (ownI_put HW2.out HR.out (by decide) 0 _) (HR.out.put 0 _) (by decide) 1 _) ((HR.out.put 0 _).put 1 _) (by decide) 2 _) (((HR.out.put 0 _).put 1 _).put 2 _) (by decide) 3 _
            · exact (((HD.out.setC (Nat.le_refl _) hgs 0 _).setC (Nat.le_refl _) hgs 1 _).setC (Nat.le_refl _) hgs 2 _).setC (Nat.le_refl _) hgs 3 _
          · have hS0 : S = [] := List.eq_nil_of_length_eq_zero (by omega)
            subst hS0
            have HW2 := Lib.hid (show OwnI w.heap.size wc (.slice none 0 0) [] from World.ownsRow_nil _ _ _ _)
            clear x3 f3 HS h0
            have hr0 := HR.out.c 0 rfl
            have hr1 := HR.out.c 1 rfl
            have hr2 := HR.out.c 2 rfl
            have hr3 := HR.out.c 3 rfl
            have hf0 := HR.out.f 0
            have hf1 := HR.out.f 1
            have hf2 := HR.out.f 2
            have hf3 := HR.out.f 3
            have hx0 := HX.out.c 0 rfl
            have hx1 := HX.out.c 1 rfl
            have hx2 := HX.out.c 2 rfl
            have hx3 := HX.out.c 3 rfl
            go_wp2_with fail
            refine bodyPost_ret (v := .agg #[.int .i64 z, .int .i64 y, .slice ua R.length uc, .slice none 0 0]) (by simp [results, Try.results50, go_sem, hr0, hr1, hr2, hr3]) rfl ?_
            refine ⟨y, _, _, R, [], rfl, hRl, by simp, ?_, ?_, ?_⟩
            · exact ownI_put (ownI_put (ownI_put (ownI_put HO.out HR.out (by decide) 0 _) (HR.out.put 0 _) (by decide) 1 _) ((HR.out.put 0 _).put 1 _) (by decide) 2 _) (((HR.out.put 0 _).put 1 _).put 2 _) (by decide) 3 _
            · exact ownI_put (ownI_put (ownI_put (ownI_put HW2.out HR.out (by decide) 0 _) (HR.out.put 0 _) (by decide) 1 _) ((HR.out.put 0 _).put 1 _) (by decide) 2 _) (((HR.out.put 0 _).put 1 _).put 2 _) (by decide) 3 _
            · exact (((HD.out.setC (Nat.le_refl _) hgs 0 _).setC (Nat.le_refl _) hgs 1 _).setC (Nat.le_refl _) hgs 2 _).setC (Nat.le_refl _) hgs 3 _
def CfgAll (g : Nat) (w : World) (e : Ending) (w' : World) : Prop := ∃ (x y : Int) (u1 u2 : Value) (R1 R2 : List Int), e = .returned (.agg #[.int .i64 x, .int .i64 y, u1, u2]) ∧ R1.length ≤ 6 ∧ R2.length ≤ 6 ∧ OwnI w.heap.size w' u1 R1 ∧ OwnI w.heap.size w' u2 R2 ∧ Drew g w w'
set_option maxRecDepth 100000 in
set_option maxHeartbeats 8000000 in
theorem any8_any (g : Nat) (w : World) (hc : Cur g w) : Calls Try.prog 36 #[.pointer (some ⟨g, 0, none⟩)] w (CfgAll g w) := by
  have hgs := hc.lt
  have hng : w.heap.size ≠ g := by omega
  have hD0 := (Drew.refl hc).alloc (.cells #[.int .i64 0, .int .i64 0, .slice none 0 0, .slice none 0 0] 26)
  have hR := BoxC.new w 26 #[.int .i64 0, .int .i64 0, .slice none 0 0, .slice none 0 0]
  have C1 := Lib.hid (below_small g 4 _ (by decide) (by decide) hD0.2)
  go_enter Try.func36, Try.ntmps36
  go_wp2_with fail
  refine (C1.out).mono ?_
  rintro e w1 ⟨z, rfl, hz0, hz1, hd1⟩
  have hD1 := hD0.trans hd1
  have hR1 := hR.drewn hd1 hng
  have C2 := Lib.hid (config_any g (1 + z) w1 hD1.2)
  have hsz1 := hD1.1.size
  clear C1 hd1 hD0 hR
  go_wp2_with fail
  refine (C2.out).mono ?_
  rintro e w2 ⟨y, u1, u2, R1, R2, rfl, hl1, hl2, ho1, ho2, hd2⟩
  have hz2 : w.heap.size < w2.heap.size := (hR1.drewn hd2 hng).lt
  have hbX := (Below.refl w2.heap.size w2).alloc (Nat.le_refl _) (.cells #[.int .i64 (1 + z), .int .i64 y, u1, u2] 26)
  have HR := Lib.hid ((hR1.drewn hd2 hng).later hbX)
  have HX := Lib.hid (BoxC.new w2 26 #[.int .i64 (1 + z), .int .i64 y, u1, u2])
  have HD := Lib.hid ((hD1.trans hd2).alloc (.cells #[.int .i64 (1 + z), .int .i64 y, u1, u2] 26))
  have HO1 := Lib.hid ((OwnI.mono ho1 hsz1).later hbX)
  have HO2 := Lib.hid ((OwnI.mono ho2 hsz1).later hbX)
  obtain ⟨a1, c1, rfl⟩ := ho1.shape
  obtain ⟨a2, c2, rfl⟩ := ho2.shape
  obtain ⟨p, hp⟩ : ∃ p, p = w2.heap.size := ⟨_, rfl⟩
  obtain ⟨w3, hw3⟩ : ∃ q, q = w2.alloc (.cells #[.int .i64 (1 + z), .int .i64 y, .slice a1 R1.length c1, .slice a2 R2.length c2] 26) := ⟨_, rfl⟩
  rw [← hw3] at HR HX HD HO1 HO2
  rw [← hp] at HX
  have HP := Lib.hid hp
  have HW := Lib.hid hw3
  have hpw : w.heap.size < p := by omega
  have hnp : w.heap.size ≠ p := Nat.ne_of_lt hpw
  have hpg : p ≠ g := by omega
  have C3 := Lib.hid (below_small g 14 w3 (by decide) (by decide) HD.out.2)
  obtain ⟨x, hx⟩ : ∃ x, x = 1 + z := ⟨_, rfl⟩
  rw [← hx] at HX HW
  clear C2 hd2 hD1 hR1 hbX ho1 ho2 hw3 hp hz2 hsz1
  go_wp2_with fail
  rw [← hx, ← HW.out, ← HP.out]
  clear HW HP hx
  refine (C3.out).mono ?_
  rintro e w4 ⟨k, rfl, hk0, hk1, hd4⟩
  have hdq := hd4
  clear hd4 C3
  replace HR := Lib.hid (HR.out.drewn hdq hng)
  replace HX := Lib.hid (HX.out.drewn hdq hpg)
  replace HO1 := Lib.hid (HO1.out.drew hdq hgs)
  replace HO2 := Lib.hid (HO2.out.drew hdq hgs)
  replace HD := Lib.hid (HD.out.trans hdq)
  clear hdq
  have hk : k = 0 ∨ k = 1 ∨ k = 2 ∨ k = 3 ∨ 4 ≤ k := by omega
  rcases hk with rfl | rfl | rfl | rfl | hk
  · clear hk0 hk1
    have j0 := pick_lits HD.out.2 [0, 20, 21] (by decide) (by decide) (by unfold fits; decide)
    simp only [List.map_cons, List.map_nil, List.length_cons, List.length_nil, Nat.reduceAdd] at j0
    have J := Lib.hid j0
    clear j0
    go_wp2_with fail
    refine (J.out).mono ?_
    rintro e w5 ⟨v, rfl, _, hdq⟩
    clear J
    replace HR := Lib.hid (HR.out.drewn hdq hng)
    replace HX := Lib.hid (HX.out.drewn hdq hpg)
    replace HO1 := Lib.hid (HO1.out.drew hdq hgs)
    replace HO2 := Lib.hid (HO2.out.drew hdq hgs)
    replace HD := Lib.hid (HD.out.trans hdq)
    clear hdq
    have hr0 := HR.out.c 0 rfl
    have hr1 := HR.out.c 1 rfl
    have hr2 := HR.out.c 2 rfl
    have hr3 := HR.out.c 3 rfl
    have hf0 := HR.out.f 0
    have hf1 := HR.out.f 1
    have hf2 := HR.out.f 2
    have hf3 := HR.out.f 3
    have hx0 := HX.out.c 0 rfl
    have hx1 := HX.out.c 1 rfl
    have hx2 := HX.out.c 2 rfl
    have hx3 := HX.out.c 3 rfl
    have hg0 := HX.out.f 0
    have hg1 := HX.out.f 1
    have hg2 := HX.out.f 2
    have hg3 := HX.out.f 3
    go_wp2_with fail
    replace HO1 := Lib.hid (ownI_put HO1.out HX.out (by decide) 0 (.int .i64 v))
    replace HO2 := Lib.hid (ownI_put HO2.out HX.out (by decide) 0 (.int .i64 v))
    replace HR := Lib.hid (HR.out.keep hnp 0 (.int .i64 v))
    replace HD := Lib.hid (HD.out.setC (Nat.le_of_lt hpw) hgs 0 (.int .i64 v))
    refine bodyPost_ret (v := .agg #[.int .i64 v, .int .i64 y, .slice a1 R1.length c1, .slice a2 R2.length c2]) (by simp [results, Try.results36, go_sem, hr0, hr1, hr2, hr3, hnp]) rfl ?_
    refine ⟨v, y, _, _, R1, R2, rfl, hl1, hl2, ?_, ?_, ?_⟩
    · exact ownI_put (ownI_put (ownI_put (ownI_put HO1.out HR.out (by decide) 0 _) (HR.out.put 0 _) (by decide) 1 _) ((HR.out.put 0 _).put 1 _) (by decide) 2 _) (((HR.out.put 0 _).put 1 _).put 2 _) (by decide) 3 _
    · exact ownI_put (ownI_put (ownI_put (ownI_put HO2.out HR.out (by decide) 0 _) (HR.out.put 0 _) (by decide) 1 _) ((HR.out.put 0 _).put 1 _) (by decide) 2 _) (((HR.out.put 0 _).put 1 _).put 2 _) (by decide) 3 _
    · exact (((HD.out.setC (Nat.le_refl _) hgs 0 _).setC (Nat.le_refl _) hgs 1 _).setC (Nat.le_refl _) hgs 2 _).setC (Nat.le_refl _) hgs 3 _
  · clear hk0 hk1
    have J := Lib.hid (below_small g 7 w4 (by decide) (by decide) HD.out.2)
    go_wp2_with fail
    refine (J.out).mono ?_
    rintro e w5 ⟨v, rfl, hv0, hv1, hdq⟩
    have hw : IntKind.i64.wrap (v - 1) = v - 1 := IntWalk.i64_in _ (by omega)
    clear J
    replace HR := Lib.hid (HR.out.drewn hdq hng)
    replace HX := Lib.hid (HX.out.drewn hdq hpg)
    replace HO1 := Lib.hid (HO1.out.drew hdq hgs)
    replace HO2 := Lib.hid (HO2.out.drew hdq hgs)
    replace HD := Lib.hid (HD.out.trans hdq)
    clear hdq
    have hr0 := HR.out.c 0 rfl
    have hr1 := HR.out.c 1 rfl
    have hr2 := HR.out.c 2 rfl
    have hr3 := HR.out.c 3 rfl
    have hf0 := HR.out.f 0
    have hf1 := HR.out.f 1
    have hf2 := HR.out.f 2
    have hf3 := HR.out.f 3
    have hx0 := HX.out.c 0 rfl
    have hx1 := HX.out.c 1 rfl
    have hx2 := HX.out.c 2 rfl
    have hx3 := HX.out.c 3 rfl
    have hg0 := HX.out.f 0
    have hg1 := HX.out.f 1
    have hg2 := HX.out.f 2
    have hg3 := HX.out.f 3
    go_wp2_with fail
    replace HO1 := Lib.hid (ownI_put HO1.out HX.out (by decide) 1 (.int .i64 (v - 1)))
    replace HO2 := Lib.hid (ownI_put HO2.out HX.out (by decide) 1 (.int .i64 (v - 1)))
    replace HR := Lib.hid (HR.out.keep hnp 1 (.int .i64 (v - 1)))
    replace HD := Lib.hid (HD.out.setC (Nat.le_of_lt hpw) hgs 1 (.int .i64 (v - 1)))
    refine bodyPost_ret (v := .agg #[.int .i64 x, .int .i64 (v - 1), .slice a1 R1.length c1, .slice a2 R2.length c2]) (by simp [results, Try.results36, go_sem, hr0, hr1, hr2, hr3, hnp]) rfl ?_
    refine ⟨x, v - 1, _, _, R1, R2, rfl, hl1, hl2, ?_, ?_, ?_⟩
    · exact ownI_put (ownI_put (ownI_put (ownI_put HO1.out HR.out (by decide) 0 _) (HR.out.put 0 _) (by decide) 1 _) ((HR.out.put 0 _).put 1 _) (by decide) 2 _) (((HR.out.put 0 _).put 1 _).put 2 _) (by decide) 3 _
    · exact ownI_put (ownI_put (ownI_put (ownI_put HO2.out HR.out (by decide) 0 _) (HR.out.put 0 _) (by decide) 1 _) ((HR.out.put 0 _).put 1 _) (by decide) 2 _) (((HR.out.put 0 _).put 1 _).put 2 _) (by decide) 3 _
    · exact (((HD.out.setC (Nat.le_refl _) hgs 0 _).setC (Nat.le_refl _) hgs 1 _).setC (Nat.le_refl _) hgs 2 _).setC (Nat.le_refl _) hgs 3 _
  · clear hk0 hk1
    have J := Lib.hid (any_any g w4 HD.out.2)
    have hsz := HD.out.1.size
    go_wp2_with fail
    refine (J.out).mono ?_
    rintro e w5 ⟨v, S, rfl, hlS, hov, hdq⟩
    obtain ⟨av, cv, rfl⟩ := hov.shape
    clear J
    replace HR := Lib.hid (HR.out.drewn hdq hng)
    replace HX := Lib.hid (HX.out.drewn hdq hpg)
    replace HO1 := Lib.hid (HO1.out.drew hdq hgs)
    replace HO2 := Lib.hid (HO2.out.drew hdq hgs)
    replace HD := Lib.hid (HD.out.trans hdq)
    clear hdq
    have hr0 := HR.out.c 0 rfl
    have hr1 := HR.out.c 1 rfl
    have hr2 := HR.out.c 2 rfl
    have hr3 := HR.out.c 3 rfl
    have hf0 := HR.out.f 0
    have hf1 := HR.out.f 1
    have hf2 := HR.out.f 2
    have hf3 := HR.out.f 3
    have hx0 := HX.out.c 0 rfl
    have hx1 := HX.out.c 1 rfl
    have hx2 := HX.out.c 2 rfl
    have hx3 := HX.out.c 3 rfl
    have hg0 := HX.out.f 0
    have hg1 := HX.out.f 1
    have hg2 := HX.out.f 2
    have hg3 := HX.out.f 3
    replace HO1 := Lib.hid (OwnI.mono hov hsz)
    clear hov
    go_wp2_with fail
    replace HO1 := Lib.hid (ownI_put HO1.out HX.out (by decide) 2 (.slice av S.length cv))
    replace HO2 := Lib.hid (ownI_put HO2.out HX.out (by decide) 2 (.slice av S.length cv))
    replace HR := Lib.hid (HR.out.keep hnp 2 (.slice av S.length cv))
    replace HD := Lib.hid (HD.out.setC (Nat.le_of_lt hpw) hgs 2 (.slice av S.length cv))
    refine bodyPost_ret (v := .agg #[.int .i64 x, .int .i64 y, .slice av S.length cv, .slice a2 R2.length c2]) (by simp [results, Try.results36, go_sem, hr0, hr1, hr2, hr3, hnp]) rfl ?_
    refine ⟨x, y, _, _, S, R2, rfl, hlS, hl2, ?_, ?_, ?_⟩
    · exact ownI_put (ownI_put (ownI_put (ownI_put HO1.out HR.out (by decide) 0 _) (HR.out.put 0 _) (by decide) 1 _) ((HR.out.put 0 _).put 1 _) (by decide) 2 _) (((HR.out.put 0 _).put 1 _).put 2 _) (by decide) 3 _
    · exact ownI_put (ownI_put (ownI_put (ownI_put HO2.out HR.out (by decide) 0 _) (HR.out.put 0 _) (by decide) 1 _) ((HR.out.put 0 _).put 1 _) (by decide) 2 _) (((HR.out.put 0 _).put 1 _).put 2 _) (by decide) 3 _
    · exact (((HD.out.setC (Nat.le_refl _) hgs 0 _).setC (Nat.le_refl _) hgs 1 _).setC (Nat.le_refl _) hgs 2 _).setC (Nat.le_refl _) hgs 3 _
  · clear hk0 hk1
    have J := Lib.hid (any_any g w4 HD.out.2)
    have hsz := HD.out.1.size
    go_wp2_with fail
    refine (J.out).mono ?_
    rintro e w5 ⟨v, S, rfl, hlS, hov, hdq⟩
    obtain ⟨av, cv, rfl⟩ := hov.shape
    clear J
    replace HR := Lib.hid (HR.out.drewn hdq hng)
    replace HX := Lib.hid (HX.out.drewn hdq hpg)
    replace HO1 := Lib.hid (HO1.out.drew hdq hgs)
    replace HO2 := Lib.hid (HO2.out.drew hdq hgs)
    replace HD := Lib.hid (HD.out.trans hdq)
    clear hdq
    have hr0 := HR.out.c 0 rfl
    have hr1 := HR.out.c 1 rfl
    have hr2 := HR.out.c 2 rfl
    have hr3 := HR.out.c 3 rfl
    have hf0 := HR.out.f 0
    have hf1 := HR.out.f 1
    have hf2 := HR.out.f 2
    have hf3 := HR.out.f 3
    have hx0 := HX.out.c 0 rfl
    have hx1 := HX.out.c 1 rfl
    have hx2 := HX.out.c 2 rfl
    have hx3 := HX.out.c 3 rfl
    have hg0 := HX.out.f 0
    have hg1 := HX.out.f 1
    have hg2 := HX.out.f 2
    have hg3 := HX.out.f 3
    replace HO2 := Lib.hid (OwnI.mono hov hsz)
    clear hov
    go_wp2_with fail
    replace HO1 := Lib.hid (ownI_put HO1.out HX.out (by decide) 3 (.slice av S.length cv))
    replace HO2 := Lib.hid (ownI_put HO2.out HX.out (by decide) 3 (.slice av S.length cv))
    replace HR := Lib.hid (HR.out.keep hnp 3 (.slice av S.length cv))
    replace HD := Lib.hid (HD.out.setC (Nat.le_of_lt hpw) hgs 3 (.slice av S.length cv))
    refine bodyPost_ret (v := .agg #[.int .i64 x, .int .i64 y, .slice a1 R1.length c1, .slice av S.length cv]) (by simp [results, Try.results36, go_sem, hr0, hr1, hr2, hr3, hnp]) rfl ?_
    refine ⟨x, y, _, _, R1, S, rfl, hl1, hlS, ?_, ?_, ?_⟩
    · exact ownI_put (ownI_put (ownI_put (ownI_put HO1.out HR.out (by decide) 0 _) (HR.out.put 0 _) (by decide) 1 _) ((HR.out.put 0 _).put 1 _) (by decide) 2 _) (((HR.out.put 0 _).put 1 _).put 2 _) (by decide) 3 _
    · exact ownI_put (ownI_put (ownI_put (ownI_put HO2.out HR.out (by decide) 0 _) (HR.out.put 0 _) (by decide) 1 _) ((HR.out.put 0 _).put 1 _) (by decide) 2 _) (((HR.out.put 0 _).put 1 _).put 2 _) (by decide) 3 _
    · exact (((HD.out.setC (Nat.le_refl _) hgs 0 _).setC (Nat.le_refl _) hgs 1 _).setC (Nat.le_refl _) hgs 2 _).setC (Nat.le_refl _) hgs 3 _
  · have g0 : (k == 0) = false := by rw [beq_eq_false_iff_ne]; omega
    have g1 : (k == 1) = false := by rw [beq_eq_false_iff_ne]; omega
    have g2 : (k == 2) = false := by rw [beq_eq_false_iff_ne]; omega
    have g3 : (k == 3) = false := by rw [beq_eq_false_iff_ne]; omega
    clear hk hk0 hk1
    have hr0 := HR.out.c 0 rfl
    have hr1 := HR.out.c 1 rfl
    have hr2 := HR.out.c 2 rfl
    have hr3 := HR.out.c 3 rfl
    have hf0 := HR.out.f 0
    have hf1 := HR.out.f 1
    have hf2 := HR.out.f 2
    have hf3 := HR.out.f 3
    have hx0 := HX.out.c 0 rfl
    have hx1 := HX.out.c 1 rfl
    have hx2 := HX.out.c 2 rfl
    have hx3 := HX.out.c 3 rfl
    have hg0 := HX.out.f 0
    have hg1 := HX.out.f 1
    have hg2 := HX.out.f 2
    have hg3 := HX.out.f 3
    go_wp2_with fail
    refine bodyPost_ret (v := .agg #[.int .i64 x, .int .i64 y, .slice a1 R1.length c1, .slice a2 R2.length c2]) (by simp [results, Try.results36, go_sem, hr0, hr1, hr2, hr3, hnp]) rfl ?_
    refine ⟨x, y, _, _, R1, R2, rfl, hl1, hl2, ?_, ?_, ?_⟩
    · exact ownI_put (ownI_put (ownI_put (ownI_put HO1.out HR.out (by decide) 0 _) (HR.out.put 0 _) (by decide) 1 _) ((HR.out.put 0 _).put 1 _) (by decide) 2 _) (((HR.out.put 0 _).put 1 _).put 2 _) (by decide) 3 _
    · exact ownI_put (ownI_put (ownI_put (ownI_put HO2.out HR.out (by decide) 0 _) (HR.out.put 0 _) (by decide) 1 _) ((HR.out.put 0 _).put 1 _) (by decide) 2 _) (((HR.out.put 0 _).put 1 _).put 2 _) (by decide) 3 _
    · exact (((HD.out.setC (Nat.le_refl _) hgs 0 _).setC (Nat.le_refl _) hgs 1 _).setC (Nat.le_refl _) hgs 2 _).setC (Nat.le_refl _) hgs 3 _
/-- a drawn configuration and number, in memory of the call's own -/
def CfgInt (w : World) (e : Ending) (w' : World) : Prop := ∃ (x y : Int) (u1 u2 : Value) (R1 R2 : List Int) (i : Int), e = .returned (.tuple #[.agg #[.int .i64 x, .int .i64 y, u1, u2], .int .i64 i]) ∧ R1.length ≤ 6 ∧ R2.length ≤ 6 ∧ OwnI w.heap.size w' u1 R1 ∧ OwnI w.heap.size w' u2 R2 ∧ Below w.heap.size w w'
end Go.Proofs.Ytgjebjoaemeeoaa.kit
