/-
  The draws of chapter 10: an acceptor, valid or not; what turns below the heap's old size is the cursor alone.
-/
import Derived.Test.YtgjebjoaemeeoaaS10Spec
import Derived.Test.YtgjebjoaemeeoaaS8Draw
import Derived.Test.YtgjebjoaemeeoaaInvR
namespace Go.Proofs.Ytgjebjoaemeeoaa.kit
open Go.ChangeShapes Go.WideShapes Go.ChangeAt Go.RowKit
set_option linter.unusedVariables false
set_option linter.unusedSimpArgs false

def isInt : Value → World → Prop := fun v _ => ∃ n : Int, v = .int .i64 n
theorem isInt_monoR (R : World → World → Prop) : MonoR R isInt := fun _ _ _ h _ => h
def isAny : Value → World → Prop := fun _ _ => True
theorem isAny_monoR (R : World → World → Prop) : MonoR R isAny := fun _ _ _ h _ => h
def isTup (N : Nat) : Value → World → Prop := fun v w => ∃ (x y s t : Int) (u1 u2 : Value) (P1 P2 : List Int) (b : Bool), v = .tuple #[.agg #[.int .i64 x, .int .i64 y, .int .i64 s, .int .i64 t, u1, u2], .bool b] ∧ P1.length ≤ 6 ∧ P2.length ≤ 6 ∧ OwnI N w u1 P1 ∧ OwnI N w u2 P2
theorem isTup_monoR {g N : Nat} (hg : g < N) : MonoR (Drew g) (isTup N) := fun _ _ _ ⟨x, y, s, t, u1, u2, P1, P2, b, h, l1, l2, h1, h2⟩ hd => ⟨x, y, s, t, u1, u2, P1, P2, b, h, l1, l2, h1.drew hd hg, h2.drew hd hg⟩
def isAcA (N : Nat) : Value → World → Prop := fun v w => ∃ (x y s t : Int) (u1 u2 : Value) (P1 P2 : List Int), v = .agg #[.int .i64 x, .int .i64 y, .int .i64 s, .int .i64 t, u1, u2] ∧ P1.length ≤ 6 ∧ P2.length ≤ 6 ∧ OwnI N w u1 P1 ∧ OwnI N w u2 P2
theorem isAcA_monoR {g N : Nat} (hg : g < N) : MonoR (Drew g) (isAcA N) := fun _ _ _ ⟨x, y, s, t, u1, u2, P1, P2, h, l1, l2, h1, h2⟩ hd => ⟨x, y, s, t, u1, u2, P1, P2, h, l1, l2, h1.drew hd hg, h2.drew hd hg⟩
def isCg (N : Nat) : Value → World → Prop := fun v w => ∃ (z y : Int) (u1 u2 : Value) (P1 P2 : List Int), v = .agg #[.int .i64 z, .int .i64 y, u1, u2] ∧ P1.length ≤ 6 ∧ P2.length ≤ 6 ∧ OwnI N w u1 P1 ∧ OwnI N w u2 P2
theorem isCg_monoR {g N : Nat} (hg : g < N) : MonoR (Drew g) (isCg N) := fun _ _ _ ⟨z, y, u1, u2, P1, P2, h, l1, l2, h1, h2⟩ hd => ⟨z, y, u1, u2, P1, P2, h, l1, l2, h1.drew hd hg, h2.drew hd hg⟩
theorem drew6 {g b : Nat} {a w : World} (h : Drew g a w) (hb : a.heap.size ≤ b) (hg : g < a.heap.size) (x0 x1 x2 x3 x4 x5 : Value) : Drew g a ((((((w.setCell ⟨b, 0, none⟩ x0).setCell ⟨b, 1, none⟩ x1).setCell ⟨b, 2, none⟩ x2).setCell ⟨b, 3, none⟩ x3).setCell ⟨b, 4, none⟩ x4).setCell ⟨b, 5, none⟩ x5) :=
  (((((h.setC hb hg 0 x0).setC hb hg 1 x1).setC hb hg 2 x2).setC hb hg 3 x3).setC hb hg 4 x4).setC hb hg 5 x5
/-- some acceptor, in memory of its own -/
def AccAll (g : Nat) (w : World) (e : Ending) (w' : World) : Prop := ∃ (x y s t : Int) (u1 u2 : Value) (R1 R2 : List Int), e = .returned (.agg #[.int .i64 x, .int .i64 y, .int .i64 s, .int .i64 t, u1, u2]) ∧ R1.length ≤ 6 ∧ R2.length ≤ 6 ∧ OwnI w.heap.size w' u1 R1 ∧ OwnI w.heap.size w' u2 R2 ∧ Drew g w w'
set_option maxRecDepth 100000 in
set_option maxHeartbeats 16000000 in
theorem any10_any (g : Nat) (w : World) (hc : Cur g w) : Calls Try.prog 30 #[.pointer (some ⟨g, 0, none⟩)] w (AccAll g w) := by
  have hgs := hc.lt
  have hng : w.heap.size ≠ g := by omega
  obtain ⟨W0, hW0⟩ : ∃ W, W = (w.alloc (.cells #[.int .i64 0, .int .i64 0, .int .i64 0, .int .i64 0, .slice none 0 0, .slice none 0 0] 28)).alloc (.cells #[.int .i64 0, .int .i64 0, .int .i64 0, .int .i64 0, .slice none 0 0, .slice none 0 0] 28) := ⟨_, rfl⟩
  have hD0 : Drew g w W0 := by rw [hW0]; exact ((Drew.refl hc).alloc _).alloc _
  obtain ⟨p, hp⟩ : ∃ p, p = w.heap.size + 1 := ⟨_, rfl⟩
  have hR0 : BoxC W0 w.heap.size 28 #[.int .i64 0, .int .i64 0, .int .i64 0, .int .i64 0, .slice none 0 0, .slice none 0 0] := by rw [hW0]; exact (BoxC.new _ _ _).later ((Below.refl _ _).alloc (Nat.le_refl _) _)
  have hX0 : BoxC W0 p 28 #[.int .i64 0, .int .i64 0, .int .i64 0, .int .i64 0, .slice none 0 0, .slice none 0 0] := by
    rw [hW0, hp]
    have h := BoxC.new (w.alloc (.cells #[.int .i64 0, .int .i64 0, .int .i64 0, .int .i64 0, .slice none 0 0, .slice none 0 0] 28)) 28 #[.int .i64 0, .int .i64 0, .int .i64 0, .int .i64 0, .slice none 0 0, .slice none 0 0]
    rwa [World.size_alloc] at h
  have hpw : w.heap.size < p := by omega
  have hpg : p ≠ g := by omega
  have C1 := Lib.hid (below_small g 4 W0 (by decide) (by decide) hD0.2)
  have HW := Lib.hid hW0
  have HP := Lib.hid hp
  clear hW0 hp
  go_enter Try.func30, Try.ntmps30
  go_wp2_with fail
  rw [← HW.out, ← HP.out]
  clear HW HP
  refine (C1.out).mono ?_
  rintro e w1 ⟨n0, rfl, hn0, hn1, hd1⟩
  obtain ⟨k0, rfl⟩ := Int.eq_ofNat_of_zero_le hn0
  have HR := Lib.hid (hR0.drewn hd1 hng)
  have HX := Lib.hid (hX0.drewn hd1 hpg)
  have HD := Lib.hid (hD0.trans hd1)
  clear C1 hd1 hD0 hR0 hX0 hn0
  go_wp2_with fail
  go_loopw [4] (fun n wr => ∃ (k : Nat) (x y s t : Int) (u1 u2 : Value) (R1 R2 : List Int), n = .int .i64 k ∧ k ≤ 3 ∧ R1.length ≤ 6 ∧ R2.length ≤ 6 ∧ Hid (BoxC wr w.heap.size 28 #[.int .i64 0, .int .i64 0, .int .i64 0, .int .i64 0, .slice none 0 0, .slice none 0 0]) ∧ Hid (BoxC wr p 28 #[.int .i64 x, .int .i64 y, .int .i64 s, .int .i64 t, u1, u2]) ∧ Hid (OwnI w.heap.size wr u1 R1) ∧ Hid (OwnI w.heap.size wr u2 R2) ∧ Hid (Drew g w wr)) (fun n _ => (intOf n).toNat)
  case atStart => exact ⟨k0, 0, 0, 0, 0, _, _, [], [], rfl, by omega, by simp, by simp, HR, HX, Lib.hid (nilI _ _), Lib.hid (nilI _ _), HD⟩
  case round =>
    clear HR HX HD
    obtain ⟨k, x, y, s, t, u1, u2, R1, R2, rfl, hk, hl1, hl2, HR, HX, HO1, HO2, HD⟩ := hrel
    obtain ⟨ya, qa, rfl⟩ := HO1.out.shape
    obtain ⟨yb, qb, rfl⟩ := HO2.out.shape
    by_cases hpos : 0 < k
    · have g0 : decide (0 < k) = true := decide_eq_true hpos
      have hwk : IntKind.i64.wrap ((k : Int) - 1) = ((k - 1 : Nat) : Int) := by
        have h : ((k - 1 : Nat) : Int) = (k : Int) - 1 := by omega
        rw [h]; exact IntWalk.i64_in _ (by omega)
      go_wp2_with fail
      refine (once_any g 2 _ (by decide) (by decide) HD.out.2).mono ?_
      rintro e w3 ⟨b, rfl, hdq⟩
      replace HR := Lib.hid (HR.out.drewn hdq hng)
      replace HX := Lib.hid (HX.out.drewn hdq hpg)
      replace HO1 := Lib.hid (HO1.out.drew hdq hgs)
      replace HO2 := Lib.hid (HO2.out.drew hdq hgs)
      replace HD := Lib.hid (HD.out.trans hdq)
      clear hdq
      have HREFL := Lib.hid (show Drew g w3 w3.drew from ⟨grown_drewN (grown_refl w3 (some g)) 1, Cur.below HD.out.2 ((Below.refl w3.heap.size w3).drew) HD.out.2.lt⟩)
      cases b with
      | true =>
        go_upto_region 6 with (fail)
        refine region_reachR (m := 6) (Drew g) HREFL.out (fun _ _ _ h k => Drew.trans h k) [15, 16, 17, 18, 19, 14] (Fs [isV (.agg #[.int .i64 x, .int .i64 y, .int .i64 s, .int .i64 t, .slice ya R1.length qa, .slice yb R2.length qb]), isV (.pointer (some ⟨g, 0, none⟩)), isInt, isInt, isTup w.heap.size, isTup w.heap.size]) (by kernel_rfl) (by decide) rfl (by decide) (by kernel_rfl) (by kernel_rfl) (fun _ _ _ _ _ h => h) (Fs_monoR ⟨isV_monoR _ _, isV_monoR _ _, isInt_monoR _, isInt_monoR _, isTup_monoR hgs, isTup_monoR hgs, trivial⟩) ?step ?tail
        case step =>
          intro i hi vs wq hBq hd
          rcases (show i = 0 ∨ i = 1 ∨ i = 2 ∨ i = 3 ∨ i = 4 ∨ i = 5 from by omega) with rfl | rfl | rfl | rfl | rfl | rfl
          · have kc0 := (HX.out.drewn hBq hpg).c 0 rfl
            have kc1 := (HX.out.drewn hBq hpg).c 1 rfl
            have kc2 := (HX.out.drewn hBq hpg).c 2 rfl
            have kc3 := (HX.out.drewn hBq hpg).c 3 rfl
            have kc4 := (HX.out.drewn hBq hpg).c 4 rfl
            have kc5 := (HX.out.drewn hBq hpg).c 5 rfl
            refine wpOp_step (o := _) rfl (fun K' hK => ?_)
            have HK := Lib.hid hK
            clear hK
            simp only [lay, Act.put, List.setIfInBounds_toArray, List.set_cons_zero, List.set_cons_succ, List.getD_cons_zero, List.getD_cons_succ, id_eq]
            go_simp
            refine HK.out _ _ ⟨_, ?_, Drew.refl hBq.2, rfl⟩
            simp only [lay, Act.put, List.setIfInBounds_toArray, List.set_cons_zero, List.set_cons_succ, List.getD_cons_zero, List.getD_cons_succ, id_eq]
          · refine wpOp_step (o := _) rfl (fun K' hK => ?_)
            have HK := Lib.hid hK
            clear hK
            simp only [lay, Act.put, List.setIfInBounds_toArray, List.set_cons_zero, List.set_cons_succ, List.getD_cons_zero, List.getD_cons_succ, id_eq]
            go_simp
            refine HK.out _ _ ⟨_, ?_, Drew.refl hBq.2, rfl⟩
            simp only [lay, Act.put, List.setIfInBounds_toArray, List.set_cons_zero, List.set_cons_succ, List.getD_cons_zero, List.getD_cons_succ, id_eq]
          · have e1' : vs 1 = .pointer (some ⟨g, 0, none⟩) := hd 1 (List.contains_iff_mem.1 (by kernel_rfl))
            refine wpOp_step (o := _) rfl (fun K' hK => ?_)
            have HK := Lib.hid hK
            clear hK
            simp only [lay, Act.put, List.setIfInBounds_toArray, List.set_cons_zero, List.set_cons_succ, List.getD_cons_zero, List.getD_cons_succ, id_eq]
            rw [e1']
            go_simp
            go_at_call 48
            refine (below_small g 6 wq (by decide) (by decide) hBq.2).mono ?_
            rintro e w2 ⟨n, rfl, hn0, hn1, hd⟩
            refine HK.out _ _ ⟨_, ?_, hd, ⟨n, rfl⟩⟩
            simp only [lay, Act.put, List.setIfInBounds_toArray, List.set_cons_zero, List.set_cons_succ, List.getD_cons_zero, List.getD_cons_succ, id_eq]
            rw [e1']
          · have hz : isInt (vs 2) wq := hd 2 (List.contains_iff_mem.1 (by kernel_rfl))
            cases hz with | intro n hz =>
            refine wpOp_step (o := _) rfl (fun K' hK => ?_)
            have HK := Lib.hid hK
            clear hK
            simp only [lay, Act.put, List.setIfInBounds_toArray, List.set_cons_zero, List.set_cons_succ, List.getD_cons_zero, List.getD_cons_succ, id_eq]
            rw [hz]
            go_simp
            refine HK.out _ _ ⟨_, ?_, Drew.refl hBq.2, ⟨IntKind.i64.wrap (1 + n), rfl⟩⟩
            simp only [lay, Act.put, List.setIfInBounds_toArray, List.set_cons_zero, List.set_cons_succ, List.getD_cons_zero, List.getD_cons_succ, id_eq]
            rw [hz]
          · have e0' : vs 0 = .agg #[.int .i64 x, .int .i64 y, .int .i64 s, .int .i64 t, .slice ya R1.length qa, .slice yb R2.length qb] := hd 0 (List.contains_iff_mem.1 (by kernel_rfl))
            have hz : isInt (vs 3) wq := hd 3 (List.contains_iff_mem.1 (by kernel_rfl))
            cases hz with | intro n hz =>
            refine wpOp_step (o := _) rfl (fun K' hK => ?_)
            have HK := Lib.hid hK
            clear hK
            simp only [lay, Act.put, List.setIfInBounds_toArray, List.set_cons_zero, List.set_cons_succ, List.getD_cons_zero, List.getD_cons_succ, id_eq]
            rw [e0', hz]
            go_simp
            go_at_call 11
            refine (specPrepare x y s t _ _ _ _ R1 R2 n wq (by omega) (by omega) (HO1.out.drew hBq hgs) (HO2.out.drew hBq hgs)).mono ?_
            rintro e w2 ⟨z1, z2, rfl, h1, h2, hb⟩
            have hs := hBq.1.size
            refine HK.out _ _ ⟨_, ?_, (Drew.refl hBq.2).below hb hBq.2.lt, ⟨prepX x y s t R1 R2 n, same y, same s, same t, z1, z2, same R1, same R2, prepOk x y s t R1 R2 n, rfl, hl1, hl2, h1.mono (Nat.le_trans HD.out.1.size hs), h2.mono (Nat.le_trans HD.out.1.size hs)⟩⟩
            simp only [lay, Act.put, List.setIfInBounds_toArray, List.set_cons_zero, List.set_cons_succ, List.getD_cons_zero, List.getD_cons_succ, id_eq]
            rw [e0', hz]
          · have f0 : isTup w.heap.size (vs 4) wq := hd 4 (List.contains_iff_mem.1 (by kernel_rfl))
            refine wpOp_step (o := _) rfl (fun K' hK => ?_)
            have HK := Lib.hid hK
            clear hK
            simp only [lay, Act.put, List.setIfInBounds_toArray, List.set_cons_zero, List.set_cons_succ, List.getD_cons_zero, List.getD_cons_succ, id_eq]
            go_simp
            refine HK.out _ _ ⟨_, ?_, Drew.refl hBq.2, f0⟩
            simp only [lay, Act.put, List.setIfInBounds_toArray, List.set_cons_zero, List.set_cons_succ, List.getD_cons_zero, List.getD_cons_succ, id_eq]
        case tail =>
          intro vs wq hBq hf
          simp only [lay, Act.put, List.setIfInBounds_toArray, List.set_cons_zero, List.set_cons_succ, List.getD_cons_zero, List.getD_cons_succ, id_eq]
          obtain ⟨x1, y1, s1, t1, u1, u2, P1, P2, bb, e0', l1, l2, h1, h2⟩ : isTup w.heap.size (vs 5) wq := hf 5 (by decide)
          obtain ⟨yc, qc, rfl⟩ := h1.shape
          obtain ⟨yd, qd, rfl⟩ := h2.shape
          rw [e0']
          clear hf e0'
          have HXq := Lib.hid (HX.out.drewn hBq hpg)
          have HH1 := Lib.hid h1
          have HH2 := Lib.hid h2
          have HBq := Lib.hid hBq
          clear h1 h2 hBq
          refine any_all (rs := [6, 7]) (by kernel_rfl) (by simp) ?_
          intro i hi
          simp only [List.mem_cons, List.not_mem_nil, or_false] at hi
          rcases hi with rfl | rfl
          · refine wpOp_step (o := _) rfl (fun K' hK => ?_)
            have HK := Lib.hid hK
            clear hK
            go_simp
            refine HK.out _ _ ?_
            clear HK K'
            try simp only [Act.put, List.setIfInBounds_toArray, List.set_cons_zero, List.set_cons_succ]
            refine any_all (rs := [7, 8]) (by kernel_rfl) (by simp) ?_
            intro i hi
            simp only [List.mem_cons, List.not_mem_nil, or_false] at hi
            rcases hi with rfl | rfl
            · refine wpOp_step (o := _) rfl (fun K' hK => ?_)
              have HK := Lib.hid hK
              clear hK
              go_simp
              refine HK.out _ _ ?_
              clear HK K'
              try simp only [Act.put, List.setIfInBounds_toArray, List.set_cons_zero, List.set_cons_succ]
              refine any_all (rs := [8]) (by kernel_rfl) (by simp) ?_
              intro i hi
              simp only [List.mem_cons, List.not_mem_nil, or_false] at hi
              subst hi
              refine wpOp_step (o := _) rfl (fun K' hK => ?_)
              have HK := Lib.hid hK
              clear hK
              have kc0 := HXq.out.c 0 rfl
              have kc1 := HXq.out.c 1 rfl
              have kc2 := HXq.out.c 2 rfl
              have kc3 := HXq.out.c 3 rfl
              have kc4 := HXq.out.c 4 rfl
              have kc5 := HXq.out.c 5 rfl
              have kf0 := HXq.out.f 0
              have kf1 := HXq.out.f 1
              have kf2 := HXq.out.f 2
              have kf3 := HXq.out.f 3
              have kf4 := HXq.out.f 4
              have kf5 := HXq.out.f 5
              go_simp
              refine HK.out _ _ ?_
              clear HK K' kc0 kf0 kc1 kf1 kc2 kf2 kc3 kf3 kc4 kf4 kc5 kf5
              try simp only [Act.put, List.setIfInBounds_toArray, List.set_cons_zero, List.set_cons_succ]
              refine any_done (by kernel_rfl) ?_ _
              obtain ⟨wn, hwn⟩ : ∃ q, q = ((((((wq.setCell ⟨p, 0, none⟩ (.int .i64 x1)).setCell ⟨p, 1, none⟩ (.int .i64 y1)).setCell ⟨p, 2, none⟩ (.int .i64 s1)).setCell ⟨p, 3, none⟩ (.int .i64 t1)).setCell ⟨p, 4, none⟩ (.slice yc P1.length qc)).setCell ⟨p, 5, none⟩ (.slice yd P2.length qd)) := ⟨_, rfl⟩
              rw [← hwn]
              have HXn := Lib.hid (show BoxC wn p 28 #[.int .i64 x1, .int .i64 y1, .int .i64 s1, .int .i64 t1, .slice yc P1.length qc, .slice yd P2.length qd] by rw [hwn]; exact ((((((HXq.out.put 0 _).put 1 _).put 2 _).put 3 _).put 4 _).put 5 _))
              have HRn := Lib.hid (show BoxC wn w.heap.size 28 #[.int .i64 0, .int .i64 0, .int .i64 0, .int .i64 0, .slice none 0 0, .slice none 0 0] by rw [hwn]; exact (((((((HR.out.drewn HBq.out hng).keep (Nat.ne_of_lt hpw) 0 _).keep (Nat.ne_of_lt hpw) 1 _).keep (Nat.ne_of_lt hpw) 2 _).keep (Nat.ne_of_lt hpw) 3 _).keep (Nat.ne_of_lt hpw) 4 _).keep (Nat.ne_of_lt hpw) 5 _))
              have HOa := Lib.hid (show OwnI w.heap.size wn (.slice yc P1.length qc) P1 by rw [hwn]; exact put6 HH1.out HXq.out (by decide) _ _ _ _ _ _)
              have HOb := Lib.hid (show OwnI w.heap.size wn (.slice yd P2.length qd) P2 by rw [hwn]; exact put6 HH2.out HXq.out (by decide) _ _ _ _ _ _)
              have HDn := Lib.hid (show Drew g w wn by rw [hwn]; exact (((((((HD.out.trans HBq.out).setC (Nat.le_of_lt hpw) hgs 0 _).setC (Nat.le_of_lt hpw) hgs 1 _).setC (Nat.le_of_lt hpw) hgs 2 _).setC (Nat.le_of_lt hpw) hgs 3 _).setC (Nat.le_of_lt hpw) hgs 4 _).setC (Nat.le_of_lt hpw) hgs 5 _))
              clear hwn HXq HH1 HH2 HBq HREFL HX HR HD HO1 HO2
              go_wp2_with fail
              go_roundw
              case rel => exact ⟨k - 1, x1, y1, s1, t1, _, _, P1, P2, by go_num, by omega, l1, l2, HRn, HXn, HOa, HOb, HDn⟩
              case measure => simp [intOf]; omega
            · refine wpOp_step (o := _) rfl (fun K' hK => ?_)
              have HK := Lib.hid hK
              clear hK
              have kc0 := HXq.out.c 0 rfl
              have kc1 := HXq.out.c 1 rfl
              have kc2 := HXq.out.c 2 rfl
              have kc3 := HXq.out.c 3 rfl
              have kc4 := HXq.out.c 4 rfl
              have kc5 := HXq.out.c 5 rfl
              have kf0 := HXq.out.f 0
              have kf1 := HXq.out.f 1
              have kf2 := HXq.out.f 2
              have kf3 := HXq.out.f 3
              have kf4 := HXq.out.f 4
              have kf5 := HXq.out.f 5
              go_simp
              refine HK.out _ _ ?_
              clear HK K' kc0 kf0 kc1 kf1 kc2 kf2 kc3 kf3 kc4 kf4 kc5 kf5
              try simp only [Act.put, List.setIfInBounds_toArray, List.set_cons_zero, List.set_cons_succ]
              refine any_all (rs := [7]) (by kernel_rfl) (by simp) ?_
              intro i hi
              simp only [List.mem_cons, List.not_mem_nil, or_false] at hi
              subst hi
              refine wpOp_step (o := _) rfl (fun K' hK => ?_)
              have HK := Lib.hid hK
              clear hK
              go_simp
              refine HK.out _ _ ?_
              clear HK K'
              try simp only [Act.put, List.setIfInBounds_toArray, List.set_cons_zero, List.set_cons_succ]
              refine any_done (by kernel_rfl) ?_ _
              obtain ⟨wn, hwn⟩ : ∃ q, q = ((((((wq.setCell ⟨p, 0, none⟩ (.int .i64 x1)).setCell ⟨p, 1, none⟩ (.int .i64 y1)).setCell ⟨p, 2, none⟩ (.int .i64 s1)).setCell ⟨p, 3, none⟩ (.int .i64 t1)).setCell ⟨p, 4, none⟩ (.slice yc P1.length qc)).setCell ⟨p, 5, none⟩ (.slice yd P2.length qd)) := ⟨_, rfl⟩
              rw [← hwn]
              have HXn := Lib.hid (show BoxC wn p 28 #[.int .i64 x1, .int .i64 y1, .int .i64 s1, .int .i64 t1, .slice yc P1.length qc, .slice yd P2.length qd] by rw [hwn]; exact ((((((HXq.out.put 0 _).put 1 _).put 2 _).put 3 _).put 4 _).put 5 _))
              have HRn := Lib.hid (show BoxC wn w.heap.size 28 #[.int .i64 0, .int .i64 0, .int .i64 0, .int .i64 0, .slice none 0 0, .slice none 0 0] by rw [hwn]; exact (((((((HR.out.drewn HBq.out hng).keep (Nat.ne_of_lt hpw) 0 _).keep (Nat.ne_of_lt hpw) 1 _).keep (Nat.ne_of_lt hpw) 2 _).keep (Nat.ne_of_lt hpw) 3 _).keep (Nat.ne_of_lt hpw) 4 _).keep (Nat.ne_of_lt hpw) 5 _))
              have HOa := Lib.hid (show OwnI w.heap.size wn (.slice yc P1.length qc) P1 by rw [hwn]; exact put6 HH1.out HXq.out (by decide) _ _ _ _ _ _)
              have HOb := Lib.hid (show OwnI w.heap.size wn (.slice yd P2.length qd) P2 by rw [hwn]; exact put6 HH2.out HXq.out (by decide) _ _ _ _ _ _)
              have HDn := Lib.hid (show Drew g w wn by rw [hwn]; exact (((((((HD.out.trans HBq.out).setC (Nat.le_of_lt hpw) hgs 0 _).setC (Nat.le_of_lt hpw) hgs 1 _).setC (Nat.le_of_lt hpw) hgs 2 _).setC (Nat.le_of_lt hpw) hgs 3 _).setC (Nat.le_of_lt hpw) hgs 4 _).setC (Nat.le_of_lt hpw) hgs 5 _))
              clear hwn HXq HH1 HH2 HBq HREFL HX HR HD HO1 HO2
              go_wp2_with fail
              go_roundw
              case rel => exact ⟨k - 1, x1, y1, s1, t1, _, _, P1, P2, by go_num, by omega, l1, l2, HRn, HXn, HOa, HOb, HDn⟩
              case measure => simp [intOf]; omega
          · refine wpOp_step (o := _) rfl (fun K' hK => ?_)
            have HK := Lib.hid hK
            clear hK
            go_simp
            refine HK.out _ _ ?_
            clear HK K'
            try simp only [Act.put, List.setIfInBounds_toArray, List.set_cons_zero, List.set_cons_succ]
            refine any_all (rs := [6]) (by kernel_rfl) (by simp) ?_
            intro i hi
            simp only [List.mem_cons, List.not_mem_nil, or_false] at hi
            subst hi
            refine wpOp_step (o := _) rfl (fun K' hK => ?_)
            have HK := Lib.hid hK
            clear hK
            go_simp
            refine HK.out _ _ ?_
            clear HK K'
            try simp only [Act.put, List.setIfInBounds_toArray, List.set_cons_zero, List.set_cons_succ]
            refine any_all (rs := [8]) (by kernel_rfl) (by simp) ?_
            intro i hi
            simp only [List.mem_cons, List.not_mem_nil, or_false] at hi
            subst hi
            refine wpOp_step (o := _) rfl (fun K' hK => ?_)
            have HK := Lib.hid hK
            clear hK
            have kc0 := HXq.out.c 0 rfl
            have kc1 := HXq.out.c 1 rfl
            have kc2 := HXq.out.c 2 rfl
            have kc3 := HXq.out.c 3 rfl
            have kc4 := HXq.out.c 4 rfl
            have kc5 := HXq.out.c 5 rfl
            have kf0 := HXq.out.f 0
            have kf1 := HXq.out.f 1
            have kf2 := HXq.out.f 2
            have kf3 := HXq.out.f 3
            have kf4 := HXq.out.f 4
            have kf5 := HXq.out.f 5
            go_simp
            refine HK.out _ _ ?_
            clear HK K' kc0 kf0 kc1 kf1 kc2 kf2 kc3 kf3 kc4 kf4 kc5 kf5
            try simp only [Act.put, List.setIfInBounds_toArray, List.set_cons_zero, List.set_cons_succ]
            refine any_done (by kernel_rfl) ?_ _
            obtain ⟨wn, hwn⟩ : ∃ q, q = ((((((wq.setCell ⟨p, 0, none⟩ (.int .i64 x1)).setCell ⟨p, 1, none⟩ (.int .i64 y1)).setCell ⟨p, 2, none⟩ (.int .i64 s1)).setCell ⟨p, 3, none⟩ (.int .i64 t1)).setCell ⟨p, 4, none⟩ (.slice yc P1.length qc)).setCell ⟨p, 5, none⟩ (.slice yd P2.length qd)) := ⟨_, rfl⟩
            rw [← hwn]
            have HXn := Lib.hid (show BoxC wn p 28 #[.int .i64 x1, .int .i64 y1, .int .i64 s1, .int .i64 t1, .slice yc P1.length qc, .slice yd P2.length qd] by rw [hwn]; exact ((((((HXq.out.put 0 _).put 1 _).put 2 _).put 3 _).put 4 _).put 5 _))
            have HRn := Lib.hid (show BoxC wn w.heap.size 28 #[.int .i64 0, .int .i64 0, .int .i64 0, .int .i64 0, .slice none 0 0, .slice none 0 0] by rw [hwn]; exact (((((((HR.out.drewn HBq.out hng).keep (Nat.ne_of_lt hpw) 0 _).keep (Nat.ne_of_lt hpw) 1 _).keep (Nat.ne_of_lt hpw) 2 _).keep (Nat.ne_of_lt hpw) 3 _).keep (Nat.ne_of_lt hpw) 4 _).keep (Nat.ne_of_lt hpw) 5 _))
            have HOa := Lib.hid (show OwnI w.heap.size wn (.slice yc P1.length qc) P1 by rw [hwn]; exact put6 HH1.out HXq.out (by decide) _ _ _ _ _ _)
            have HOb := Lib.hid (show OwnI w.heap.size wn (.slice yd P2.length qd) P2 by rw [hwn]; exact put6 HH2.out HXq.out (by decide) _ _ _ _ _ _)
            have HDn := Lib.hid (show Drew g w wn by rw [hwn]; exact (((((((HD.out.trans HBq.out).setC (Nat.le_of_lt hpw) hgs 0 _).setC (Nat.le_of_lt hpw) hgs 1 _).setC (Nat.le_of_lt hpw) hgs 2 _).setC (Nat.le_of_lt hpw) hgs 3 _).setC (Nat.le_of_lt hpw) hgs 4 _).setC (Nat.le_of_lt hpw) hgs 5 _))
            clear hwn HXq HH1 HH2 HBq HREFL HX HR HD HO1 HO2
            go_wp2_with fail
            go_roundw
            case rel => exact ⟨k - 1, x1, y1, s1, t1, _, _, P1, P2, by go_num, by omega, l1, l2, HRn, HXn, HOa, HOb, HDn⟩
            case measure => simp [intOf]; omega
      | false =>
        go_upto_region 7 with (fail)
        refine region_reachR (m := 8) (Drew g) HREFL.out (fun _ _ _ h k => Drew.trans h k) [23, 24, 25, 26, 27, 28, 29, 22] (Fs [isV (.agg #[.int .i64 x, .int .i64 y, .int .i64 s, .int .i64 t, .slice ya R1.length qa, .slice yb R2.length qb]), isV (.pointer (some ⟨g, 0, none⟩)), isInt, isInt, isV (.pointer (some ⟨g, 0, none⟩)), isCg w.heap.size, isTup w.heap.size, isTup w.heap.size]) (by kernel_rfl) (by decide) rfl (by decide) (by kernel_rfl) (by kernel_rfl) (fun _ _ _ _ _ h => h) (Fs_monoR ⟨isV_monoR _ _, isV_monoR _ _, isInt_monoR _, isInt_monoR _, isV_monoR _ _, isCg_monoR hgs, isTup_monoR hgs, isTup_monoR hgs, trivial⟩) ?step ?tail
        case step =>
          intro i hi vs wq hBq hd
          rcases (show i = 0 ∨ i = 1 ∨ i = 2 ∨ i = 3 ∨ i = 4 ∨ i = 5 ∨ i = 6 ∨ i = 7 from by omega) with rfl | rfl | rfl | rfl | rfl | rfl | rfl | rfl
          · have kc0 := (HX.out.drewn hBq hpg).c 0 rfl
            have kc1 := (HX.out.drewn hBq hpg).c 1 rfl
            have kc2 := (HX.out.drewn hBq hpg).c 2 rfl
            have kc3 := (HX.out.drewn hBq hpg).c 3 rfl
            have kc4 := (HX.out.drewn hBq hpg).c 4 rfl
            have kc5 := (HX.out.drewn hBq hpg).c 5 rfl
            refine wpOp_step (o := _) rfl (fun K' hK => ?_)
            have HK := Lib.hid hK
            clear hK
            simp only [lay, Act.put, List.setIfInBounds_toArray, List.set_cons_zero, List.set_cons_succ, List.getD_cons_zero, List.getD_cons_succ, id_eq]
            go_simp
            refine HK.out _ _ ⟨_, ?_, Drew.refl hBq.2, rfl⟩
            simp only [lay, Act.put, List.setIfInBounds_toArray, List.set_cons_zero, List.set_cons_succ, List.getD_cons_zero, List.getD_cons_succ, id_eq]
          · refine wpOp_step (o := _) rfl (fun K' hK => ?_)
            have HK := Lib.hid hK
            clear hK
            simp only [lay, Act.put, List.setIfInBounds_toArray, List.set_cons_zero, List.set_cons_succ, List.getD_cons_zero, List.getD_cons_succ, id_eq]
            go_simp
            refine HK.out _ _ ⟨_, ?_, Drew.refl hBq.2, rfl⟩
            simp only [lay, Act.put, List.setIfInBounds_toArray, List.set_cons_zero, List.set_cons_succ, List.getD_cons_zero, List.getD_cons_succ, id_eq]
          · have e1' : vs 1 = .pointer (some ⟨g, 0, none⟩) := hd 1 (List.contains_iff_mem.1 (by kernel_rfl))
            refine wpOp_step (o := _) rfl (fun K' hK => ?_)
            have HK := Lib.hid hK
            clear hK
            simp only [lay, Act.put, List.setIfInBounds_toArray, List.set_cons_zero, List.set_cons_succ, List.getD_cons_zero, List.getD_cons_succ, id_eq]
            rw [e1']
            go_simp
            go_at_call 48
            refine (below_small g 6 wq (by decide) (by decide) hBq.2).mono ?_
            rintro e w2 ⟨n, rfl, hn0, hn1, hd⟩
            refine HK.out _ _ ⟨_, ?_, hd, ⟨n, rfl⟩⟩
            simp only [lay, Act.put, List.setIfInBounds_toArray, List.set_cons_zero, List.set_cons_succ, List.getD_cons_zero, List.getD_cons_succ, id_eq]
            rw [e1']
          · have hz : isInt (vs 2) wq := hd 2 (List.contains_iff_mem.1 (by kernel_rfl))
            cases hz with | intro n hz =>
            refine wpOp_step (o := _) rfl (fun K' hK => ?_)
            have HK := Lib.hid hK
            clear hK
            simp only [lay, Act.put, List.setIfInBounds_toArray, List.set_cons_zero, List.set_cons_succ, List.getD_cons_zero, List.getD_cons_succ, id_eq]
            rw [hz]
            go_simp
            refine HK.out _ _ ⟨_, ?_, Drew.refl hBq.2, ⟨IntKind.i64.wrap (1 + n), rfl⟩⟩
            simp only [lay, Act.put, List.setIfInBounds_toArray, List.set_cons_zero, List.set_cons_succ, List.getD_cons_zero, List.getD_cons_succ, id_eq]
            rw [hz]
          · refine wpOp_step (o := _) rfl (fun K' hK => ?_)
            have HK := Lib.hid hK
            clear hK
            simp only [lay, Act.put, List.setIfInBounds_toArray, List.set_cons_zero, List.set_cons_succ, List.getD_cons_zero, List.getD_cons_succ, id_eq]
            go_simp
            refine HK.out _ _ ⟨_, ?_, Drew.refl hBq.2, rfl⟩
            simp only [lay, Act.put, List.setIfInBounds_toArray, List.set_cons_zero, List.set_cons_succ, List.getD_cons_zero, List.getD_cons_succ, id_eq]
          · have e4' : vs 4 = .pointer (some ⟨g, 0, none⟩) := hd 4 (List.contains_iff_mem.1 (by kernel_rfl))
            refine wpOp_step (o := _) rfl (fun K' hK => ?_)
            have HK := Lib.hid hK
            clear hK
            simp only [lay, Act.put, List.setIfInBounds_toArray, List.set_cons_zero, List.set_cons_succ, List.getD_cons_zero, List.getD_cons_succ, id_eq]
            rw [e4']
            go_simp
            go_at_call 50
            refine (config_any g 2 wq hBq.2).mono ?_
            rintro e w2 ⟨yy, z1, z2, Q1, Q2, rfl, hq1, hq2, h1, h2, hd⟩
            have hs := hBq.1.size
            refine HK.out _ _ ⟨_, ?_, hd, ⟨2, yy, z1, z2, Q1, Q2, rfl, hq1, hq2, h1.mono (Nat.le_trans HD.out.1.size hs), h2.mono (Nat.le_trans HD.out.1.size hs)⟩⟩
            simp only [lay, Act.put, List.setIfInBounds_toArray, List.set_cons_zero, List.set_cons_succ, List.getD_cons_zero, List.getD_cons_succ, id_eq]
            rw [e4']
          · have e0' : vs 0 = .agg #[.int .i64 x, .int .i64 y, .int .i64 s, .int .i64 t, .slice ya R1.length qa, .slice yb R2.length qb] := hd 0 (List.contains_iff_mem.1 (by kernel_rfl))
            have hz : isInt (vs 3) wq := hd 3 (List.contains_iff_mem.1 (by kernel_rfl))
            cases hz with | intro n hz =>
            have hy : isCg w.heap.size (vs 5) wq := hd 5 (List.contains_iff_mem.1 (by kernel_rfl))
            cases hy with | intro zz hy =>
            cases hy with | intro yy hy =>
            cases hy with | intro z1 hy =>
            cases hy with | intro z2 hy =>
            cases hy with | intro Q1 hy =>
            cases hy with | intro Q2 hy =>
            have hy0 := hy.1
            have hq1 := hy.2.1
            have hq2 := hy.2.2.1
            have ho1 := hy.2.2.2.1
            have ho2 := hy.2.2.2.2
            refine wpOp_step (o := _) rfl (fun K' hK => ?_)
            have HK := Lib.hid hK
            clear hK
            simp only [lay, Act.put, List.setIfInBounds_toArray, List.set_cons_zero, List.set_cons_succ, List.getD_cons_zero, List.getD_cons_succ, id_eq]
            rw [e0', hz, hy0]
            go_simp
            go_at_call 15
            refine (specAccept x y s t _ _ _ _ R1 R2 n zz yy _ _ z1 z2 Q1 Q2 wq (by omega) (by omega) (HO1.out.drew hBq hgs) (HO2.out.drew hBq hgs) (by omega) (by omega) ho1 ho2).mono ?_
            rintro e w2 ⟨v1, v2, rfl, h1, h2, hb⟩
            have hs := hBq.1.size
            refine HK.out _ _ ⟨_, ?_, (Drew.refl hBq.2).below hb hBq.2.lt, ⟨acpX x y s t R1 R2 n zz yy Q1 Q2, acpY x y s t R1 R2 n zz yy Q1 Q2, acpS x y s t R1 R2 n zz yy Q1 Q2, acpT x y s t R1 R2 n zz yy Q1 Q2, v1, v2, acpL1 x y s t R1 R2 n zz yy Q1 Q2, acpL2 x y s t R1 R2 n zz yy Q1 Q2, acpOk x y s t R1 R2 n zz yy Q1 Q2, rfl, acpL1_len _ _ _ _ _ _ _ _ _ _ _ hq1 hl1, acpL2_len _ _ _ _ _ _ _ _ _ _ _ hq2 hl2, h1.mono (Nat.le_trans HD.out.1.size hs), h2.mono (Nat.le_trans HD.out.1.size hs)⟩⟩
            simp only [lay, Act.put, List.setIfInBounds_toArray, List.set_cons_zero, List.set_cons_succ, List.getD_cons_zero, List.getD_cons_succ, id_eq]
            rw [e0', hz, hy0]
          · have f0 : isTup w.heap.size (vs 6) wq := hd 6 (List.contains_iff_mem.1 (by kernel_rfl))
            refine wpOp_step (o := _) rfl (fun K' hK => ?_)
            have HK := Lib.hid hK
            clear hK
            simp only [lay, Act.put, List.setIfInBounds_toArray, List.set_cons_zero, List.set_cons_succ, List.getD_cons_zero, List.getD_cons_succ, id_eq]
            go_simp
            refine HK.out _ _ ⟨_, ?_, Drew.refl hBq.2, f0⟩
            simp only [lay, Act.put, List.setIfInBounds_toArray, List.set_cons_zero, List.set_cons_succ, List.getD_cons_zero, List.getD_cons_succ, id_eq]
        case tail =>
          intro vs wq hBq hf
          simp only [lay, Act.put, List.setIfInBounds_toArray, List.set_cons_zero, List.set_cons_succ, List.getD_cons_zero, List.getD_cons_succ, id_eq]
          obtain ⟨x1, y1, s1, t1, u1, u2, P1, P2, bb, e0', l1, l2, h1, h2⟩ : isTup w.heap.size (vs 7) wq := hf 7 (by decide)
          obtain ⟨yc, qc, rfl⟩ := h1.shape
          obtain ⟨yd, qd, rfl⟩ := h2.shape
          rw [e0']
          clear hf e0'
          have HXq := Lib.hid (HX.out.drewn hBq hpg)
          have HH1 := Lib.hid h1
          have HH2 := Lib.hid h2
          have HBq := Lib.hid hBq
          clear h1 h2 hBq
          refine any_all (rs := [8, 9]) (by kernel_rfl) (by simp) ?_
          intro i hi
          simp only [List.mem_cons, List.not_mem_nil, or_false] at hi
          rcases hi with rfl | rfl
          · refine wpOp_step (o := _) rfl (fun K' hK => ?_)
            have HK := Lib.hid hK
            clear hK
            go_simp
            refine HK.out _ _ ?_
            clear HK K'
            try simp only [Act.put, List.setIfInBounds_toArray, List.set_cons_zero, List.set_cons_succ]
            refine any_all (rs := [9, 10]) (by kernel_rfl) (by simp) ?_
            intro i hi
            simp only [List.mem_cons, List.not_mem_nil, or_false] at hi
            rcases hi with rfl | rfl
            · refine wpOp_step (o := _) rfl (fun K' hK => ?_)
              have HK := Lib.hid hK
              clear hK
              go_simp
              refine HK.out _ _ ?_
              clear HK K'
              try simp only [Act.put, List.setIfInBounds_toArray, List.set_cons_zero, List.set_cons_succ]
              refine any_all (rs := [10]) (by kernel_rfl) (by simp) ?_
              intro i hi
              simp only [List.mem_cons, List.not_mem_nil, or_false] at hi
              subst hi
              refine wpOp_step (o := _) rfl (fun K' hK => ?_)
              have HK := Lib.hid hK
              clear hK
              have kc0 := HXq.out.c 0 rfl
              have kc1 := HXq.out.c 1 rfl
              have kc2 := HXq.out.c 2 rfl
              have kc3 := HXq.out.c 3 rfl
              have kc4 := HXq.out.c 4 rfl
              have kc5 := HXq.out.c 5 rfl
              have kf0 := HXq.out.f 0
              have kf1 := HXq.out.f 1
              have kf2 := HXq.out.f 2
              have kf3 := HXq.out.f 3
              have kf4 := HXq.out.f 4
              have kf5 := HXq.out.f 5
              go_simp
              refine HK.out _ _ ?_
              clear HK K' kc0 kf0 kc1 kf1 kc2 kf2 kc3 kf3 kc4 kf4 kc5 kf5
              try simp only [Act.put, List.setIfInBounds_toArray, List.set_cons_zero, List.set_cons_succ]
              refine any_done (by kernel_rfl) ?_ _
              obtain ⟨wn, hwn⟩ : ∃ q, q = ((((((wq.setCell ⟨p, 0, none⟩ (.int .i64 x1)).setCell ⟨p, 1, none⟩ (.int .i64 y1)).setCell ⟨p, 2, none⟩ (.int .i64 s1)).setCell ⟨p, 3, none⟩ (.int .i64 t1)).setCell ⟨p, 4, none⟩ (.slice yc P1.length qc)).setCell ⟨p, 5, none⟩ (.slice yd P2.length qd)) := ⟨_, rfl⟩
              rw [← hwn]
              have HXn := Lib.hid (show BoxC wn p 28 #[.int .i64 x1, .int .i64 y1, .int .i64 s1, .int .i64 t1, .slice yc P1.length qc, .slice yd P2.length qd] by rw [hwn]; exact ((((((HXq.out.put 0 _).put 1 _).put 2 _).put 3 _).put 4 _).put 5 _))
              have HRn := Lib.hid (show BoxC wn w.heap.size 28 #[.int .i64 0, .int .i64 0, .int .i64 0, .int .i64 0, .slice none 0 0, .slice none 0 0] by rw [hwn]; exact (((((((HR.out.drewn HBq.out hng).keep (Nat.ne_of_lt hpw) 0 _).keep (Nat.ne_of_lt hpw) 1 _).keep (Nat.ne_of_lt hpw) 2 _).keep (Nat.ne_of_lt hpw) 3 _).keep (Nat.ne_of_lt hpw) 4 _).keep (Nat.ne_of_lt hpw) 5 _))
              have HOa := Lib.hid (show OwnI w.heap.size wn (.slice yc P1.length qc) P1 by rw [hwn]; exact put6 HH1.out HXq.out (by decide) _ _ _ _ _ _)
              have HOb := Lib.hid (show OwnI w.heap.size wn (.slice yd P2.length qd) P2 by rw [hwn]; exact put6 HH2.out HXq.out (by decide) _ _ _ _ _ _)
              have HDn := Lib.hid (show Drew g w wn by rw [hwn]; exact (((((((HD.out.trans HBq.out).setC (Nat.le_of_lt hpw) hgs 0 _).setC (Nat.le_of_lt hpw) hgs 1 _).setC (Nat.le_of_lt hpw) hgs 2 _).setC (Nat.le_of_lt hpw) hgs 3 _).setC (Nat.le_of_lt hpw) hgs 4 _).setC (Nat.le_of_lt hpw) hgs 5 _))
              clear hwn HXq HH1 HH2 HBq HREFL HX HR HD HO1 HO2
              go_wp2_with fail
              go_roundw
              case rel => exact ⟨k - 1, x1, y1, s1, t1, _, _, P1, P2, by go_num, by omega, l1, l2, HRn, HXn, HOa, HOb, HDn⟩
              case measure => simp [intOf]; omega
            · refine wpOp_step (o := _) rfl (fun K' hK => ?_)
              have HK := Lib.hid hK
              clear hK
              have kc0 := HXq.out.c 0 rfl
              have kc1 := HXq.out.c 1 rfl
              have kc2 := HXq.out.c 2 rfl
              have kc3 := HXq.out.c 3 rfl
              have kc4 := HXq.out.c 4 rfl
              have kc5 := HXq.out.c 5 rfl
              have kf0 := HXq.out.f 0
              have kf1 := HXq.out.f 1
              have kf2 := HXq.out.f 2
              have kf3 := HXq.out.f 3
              have kf4 := HXq.out.f 4
              have kf5 := HXq.out.f 5
              go_simp
              refine HK.out _ _ ?_
              clear HK K' kc0 kf0 kc1 kf1 kc2 kf2 kc3 kf3 kc4 kf4 kc5 kf5
              try simp only [Act.put, List.setIfInBounds_toArray, List.set_cons_zero, List.set_cons_succ]
              refine any_all (rs := [9]) (by kernel_rfl) (by simp) ?_
              intro i hi
              simp only [List.mem_cons, List.not_mem_nil, or_false] at hi
              subst hi
              refine wpOp_step (o := _) rfl (fun K' hK => ?_)
              have HK := Lib.hid hK
              clear hK
              go_simp
              refine HK.out _ _ ?_
              clear HK K'
              try simp only [Act.put, List.setIfInBounds_toArray, List.set_cons_zero, List.set_cons_succ]
              refine any_done (by kernel_rfl) ?_ _
              obtain ⟨wn, hwn⟩ : ∃ q, q = ((((((wq.setCell ⟨p, 0, none⟩ (.int .i64 x1)).setCell ⟨p, 1, none⟩ (.int .i64 y1)).setCell ⟨p, 2, none⟩ (.int .i64 s1)).setCell ⟨p, 3, none⟩ (.int .i64 t1)).setCell ⟨p, 4, none⟩ (.slice yc P1.length qc)).setCell ⟨p, 5, none⟩ (.slice yd P2.length qd)) := ⟨_, rfl⟩
              rw [← hwn]
              have HXn := Lib.hid (show BoxC wn p 28 #[.int .i64 x1, .int .i64 y1, .int .i64 s1, .int .i64 t1, .slice yc P1.length qc, .slice yd P2.length qd] by rw [hwn]; exact ((((((HXq.out.put 0 _).put 1 _).put 2 _).put 3 _).put 4 _).put 5 _))
              have HRn := Lib.hid (show BoxC wn w.heap.size 28 #[.int .i64 0, .int .i64 0, .int .i64 0, .int .i64 0, .slice none 0 0, .slice none 0 0] by rw [hwn]; exact (((((((HR.out.drewn HBq.out hng).keep (Nat.ne_of_lt hpw) 0 _).keep (Nat.ne_of_lt hpw) 1 _).keep (Nat.ne_of_lt hpw) 2 _).keep (Nat.ne_of_lt hpw) 3 _).keep (Nat.ne_of_lt hpw) 4 _).keep (Nat.ne_of_lt hpw) 5 _))
              have HOa := Lib.hid (show OwnI w.heap.size wn (.slice yc P1.length qc) P1 by rw [hwn]; exact put6 HH1.out HXq.out (by decide) _ _ _ _ _ _)
              have HOb := Lib.hid (show OwnI w.heap.size wn (.slice yd P2.length qd) P2 by rw [hwn]; exact put6 HH2.out HXq.out (by decide) _ _ _ _ _ _)
              have HDn := Lib.hid (show Drew g w wn by rw [hwn]; exact (((((((HD.out.trans HBq.out).setC (Nat.le_of_lt hpw) hgs 0 _).setC (Nat.le_of_lt hpw) hgs 1 _).setC (Nat.le_of_lt hpw) hgs 2 _).setC (Nat.le_of_lt hpw) hgs 3 _).setC (Nat.le_of_lt hpw) hgs 4 _).setC (Nat.le_of_lt hpw) hgs 5 _))
              clear hwn HXq HH1 HH2 HBq HREFL HX HR HD HO1 HO2
              go_wp2_with fail
              go_roundw
              case rel => exact ⟨k - 1, x1, y1, s1, t1, _, _, P1, P2, by go_num, by omega, l1, l2, HRn, HXn, HOa, HOb, HDn⟩
              case measure => simp [intOf]; omega
          · refine wpOp_step (o := _) rfl (fun K' hK => ?_)
            have HK := Lib.hid hK
            clear hK
            go_simp
            refine HK.out _ _ ?_
            clear HK K'
            try simp only [Act.put, List.setIfInBounds_toArray, List.set_cons_zero, List.set_cons_succ]
            refine any_all (rs := [8]) (by kernel_rfl) (by simp) ?_
            intro i hi
            simp only [List.mem_cons, List.not_mem_nil, or_false] at hi
            subst hi
            refine wpOp_step (o := _) rfl (fun K' hK => ?_)
            have HK := Lib.hid hK
            clear hK
            go_simp
            refine HK.out _ _ ?_
            clear HK K'
            try simp only [Act.put, List.setIfInBounds_toArray, List.set_cons_zero, List.set_cons_succ]
            refine any_all (rs := [10]) (by kernel_rfl) (by simp) ?_
            intro i hi
            simp only [List.mem_cons, List.not_mem_nil, or_false] at hi
            subst hi
            refine wpOp_step (o := _) rfl (fun K' hK => ?_)
            have HK := Lib.hid hK
            clear hK
            have kc0 := HXq.out.c 0 rfl
            have kc1 := HXq.out.c 1 rfl
            have kc2 := HXq.out.c 2 rfl
            have kc3 := HXq.out.c 3 rfl
            have kc4 := HXq.out.c 4 rfl
            have kc5 := HXq.out.c 5 rfl
            have kf0 := HXq.out.f 0
            have kf1 := HXq.out.f 1
            have kf2 := HXq.out.f 2
            have kf3 := HXq.out.f 3
            have kf4 := HXq.out.f 4
            have kf5 := HXq.out.f 5
            go_simp
            refine HK.out _ _ ?_
            clear HK K' kc0 kf0 kc1 kf1 kc2 kf2 kc3 kf3 kc4 kf4 kc5 kf5
            try simp only [Act.put, List.setIfInBounds_toArray, List.set_cons_zero, List.set_cons_succ]
            refine any_done (by kernel_rfl) ?_ _
            obtain ⟨wn, hwn⟩ : ∃ q, q = ((((((wq.setCell ⟨p, 0, none⟩ (.int .i64 x1)).setCell ⟨p, 1, none⟩ (.int .i64 y1)).setCell ⟨p, 2, none⟩ (.int .i64 s1)).setCell ⟨p, 3, none⟩ (.int .i64 t1)).setCell ⟨p, 4, none⟩ (.slice yc P1.length qc)).setCell ⟨p, 5, none⟩ (.slice yd P2.length qd)) := ⟨_, rfl⟩
            rw [← hwn]
            have HXn := Lib.hid (show BoxC wn p 28 #[.int .i64 x1, .int .i64 y1, .int .i64 s1, .int .i64 t1, .slice yc P1.length qc, .slice yd P2.length qd] by rw [hwn]; exact ((((((HXq.out.put 0 _).put 1 _).put 2 _).put 3 _).put 4 _).put 5 _))
            have HRn := Lib.hid (show BoxC wn w.heap.size 28 #[.int .i64 0, .int .i64 0, .int .i64 0, .int .i64 0, .slice none 0 0, .slice none 0 0] by rw [hwn]; exact (((((((HR.out.drewn HBq.out hng).keep (Nat.ne_of_lt hpw) 0 _).keep (Nat.ne_of_lt hpw) 1 _).keep (Nat.ne_of_lt hpw) 2 _).keep (Nat.ne_of_lt hpw) 3 _).keep (Nat.ne_of_lt hpw) 4 _).keep (Nat.ne_of_lt hpw) 5 _))
            have HOa := Lib.hid (show OwnI w.heap.size wn (.slice yc P1.length qc) P1 by rw [hwn]; exact put6 HH1.out HXq.out (by decide) _ _ _ _ _ _)
            have HOb := Lib.hid (show OwnI w.heap.size wn (.slice yd P2.length qd) P2 by rw [hwn]; exact put6 HH2.out HXq.out (by decide) _ _ _ _ _ _)
            have HDn := Lib.hid (show Drew g w wn by rw [hwn]; exact (((((((HD.out.trans HBq.out).setC (Nat.le_of_lt hpw) hgs 0 _).setC (Nat.le_of_lt hpw) hgs 1 _).setC (Nat.le_of_lt hpw) hgs 2 _).setC (Nat.le_of_lt hpw) hgs 3 _).setC (Nat.le_of_lt hpw) hgs 4 _).setC (Nat.le_of_lt hpw) hgs 5 _))
            clear hwn HXq HH1 HH2 HBq HREFL HX HR HD HO1 HO2
            go_wp2_with fail
            go_roundw
            case rel => exact ⟨k - 1, x1, y1, s1, t1, _, _, P1, P2, by go_num, by omega, l1, l2, HRn, HXn, HOa, HOb, HDn⟩
            case measure => simp [intOf]; omega
    · have g0 : decide (0 < k) = false := decide_eq_false hpos
      have J14 := Lib.hid (below_small g 14 _ (by decide) (by decide) HD.out.2)
      go_wp2_with fail
      clear hpos hk
      refine J14.out.mono ?_
      rintro e w3 ⟨j, rfl, hj0, hj1, hdq⟩
      replace HR := Lib.hid (HR.out.drewn hdq hng)
      replace HX := Lib.hid (HX.out.drewn hdq hpg)
      replace HO1 := Lib.hid (HO1.out.drew hdq hgs)
      replace HO2 := Lib.hid (HO2.out.drew hdq hgs)
      replace HD := Lib.hid (HD.out.trans hdq)
      clear hdq
      clear J14
      have hnp : w.heap.size ≠ p := Nat.ne_of_lt hpw
      have hj : j = 0 ∨ j = 1 ∨ j = 2 ∨ 3 ≤ j := by omega
      rcases hj with rfl | rfl | rfl | hj
      · clear hj0 hj1
        have j0 := pick_lits HD.out.2 [-1, 0, 99, 100] (by decide) (by decide) (by unfold fits; decide)
        simp only [List.map_cons, List.map_nil, List.length_cons, List.length_nil, Nat.reduceAdd] at j0
        have J := Lib.hid j0
        clear j0
        go_wp2_with fail
        refine (J.out).mono ?_
        rintro e w5 ⟨v, rfl, _, hdq⟩
        clear J
        replace HR := Lib.hid (HR.out.drewn hdq hng)
        replace HX := Lib.hid (HX.out.drewn hdq hpg)
        replace HO1 := Lib.hid (HO1.out.drew hdq hgs)
        replace HO2 := Lib.hid (HO2.out.drew hdq hgs)
        replace HD := Lib.hid (HD.out.trans hdq)
        clear hdq
        have hr0 := HR.out.c 0 rfl
        have hr1 := HR.out.c 1 rfl
        have hr2 := HR.out.c 2 rfl
        have hr3 := HR.out.c 3 rfl
        have hr4 := HR.out.c 4 rfl
        have hr5 := HR.out.c 5 rfl
        have hf0 := HR.out.f 0
        have hf1 := HR.out.f 1
        have hf2 := HR.out.f 2
        have hf3 := HR.out.f 3
        have hf4 := HR.out.f 4
        have hf5 := HR.out.f 5
        have hx0 := HX.out.c 0 rfl
        have hx1 := HX.out.c 1 rfl
        have hx2 := HX.out.c 2 rfl
        have hx3 := HX.out.c 3 rfl
        have hx4 := HX.out.c 4 rfl
        have hx5 := HX.out.c 5 rfl
        have hg0 := HX.out.f 0
        have hg1 := HX.out.f 1
        have hg2 := HX.out.f 2
        have hg3 := HX.out.f 3
        have hg4 := HX.out.f 4
        have hg5 := HX.out.f 5
        go_wp2_with fail
        replace HO1 := Lib.hid (rowI_put HO1.out HX.out (by decide) 0 (.int .i64 v))
        replace HO2 := Lib.hid (rowI_put HO2.out HX.out (by decide) 0 (.int .i64 v))
        replace HR := Lib.hid (HR.out.keep hnp 0 (.int .i64 v))
        replace HD := Lib.hid (HD.out.setC (Nat.le_of_lt hpw) hgs 0 (.int .i64 v))
        refine bodyPost_ret (v := .agg #[.int .i64 v, .int .i64 y, .int .i64 s, .int .i64 t, .slice ya R1.length qa, .slice yb R2.length qb]) (by simp [results, Try.results30, go_sem, hr0, hr1, hr2, hr3, hr4, hr5, hnp]) rfl ?_
        refine ⟨v, y, s, t, _, _, R1, R2, rfl, hl1, hl2, ?_, ?_, ?_⟩
        · exact put6 HO1.out HR.out (by decide) _ _ _ _ _ _
        · exact put6 HO2.out HR.out (by decide) _ _ _ _ _ _
        · exact drew6 HD.out (Nat.le_refl _) hgs _ _ _ _ _ _
      · clear hj0 hj1
        have j0 := pick_lits HD.out.2 [-1, 0, 1, 7] (by decide) (by decide) (by unfold fits; decide)
        simp only [List.map_cons, List.map_nil, List.length_cons, List.length_nil, Nat.reduceAdd] at j0
        have J := Lib.hid j0
        clear j0
        go_wp2_with fail
        refine (J.out).mono ?_
        rintro e w5 ⟨v, rfl, _, hdq⟩
        clear J
        replace HR := Lib.hid (HR.out.drewn hdq hng)
        replace HX := Lib.hid (HX.out.drewn hdq hpg)
        replace HO1 := Lib.hid (HO1.out.drew hdq hgs)
        replace HO2 := Lib.hid (HO2.out.drew hdq hgs)
        replace HD := Lib.hid (HD.out.trans hdq)
        clear hdq
        have hr0 := HR.out.c 0 rfl
        have hr1 := HR.out.c 1 rfl
        have hr2 := HR.out.c 2 rfl
        have hr3 := HR.out.c 3 rfl
        have hr4 := HR.out.c 4 rfl
        have hr5 := HR.out.c 5 rfl
        have hf0 := HR.out.f 0
        have hf1 := HR.out.f 1
        have hf2 := HR.out.f 2
        have hf3 := HR.out.f 3
        have hf4 := HR.out.f 4
        have hf5 := HR.out.f 5
        have hx0 := HX.out.c 0 rfl
        have hx1 := HX.out.c 1 rfl
        have hx2 := HX.out.c 2 rfl
        have hx3 := HX.out.c 3 rfl
        have hx4 := HX.out.c 4 rfl
        have hx5 := HX.out.c 5 rfl
        have hg0 := HX.out.f 0
        have hg1 := HX.out.f 1
        have hg2 := HX.out.f 2
        have hg3 := HX.out.f 3
        have hg4 := HX.out.f 4
        have hg5 := HX.out.f 5
        go_wp2_with fail
        replace HO1 := Lib.hid (rowI_put HO1.out HX.out (by decide) 1 (.int .i64 v))
        replace HO2 := Lib.hid (rowI_put HO2.out HX.out (by decide) 1 (.int .i64 v))
        replace HR := Lib.hid (HR.out.keep hnp 1 (.int .i64 v))
        replace HD := Lib.hid (HD.out.setC (Nat.le_of_lt hpw) hgs 1 (.int .i64 v))
        refine bodyPost_ret (v := .agg #[.int .i64 x, .int .i64 v, .int .i64 s, .int .i64 t, .slice ya R1.length qa, .slice yb R2.length qb]) (by simp [results, Try.results30, go_sem, hr0, hr1, hr2, hr3, hr4, hr5, hnp]) rfl ?_
        refine ⟨x, v, s, t, _, _, R1, R2, rfl, hl1, hl2, ?_, ?_, ?_⟩
        · exact put6 HO1.out HR.out (by decide) _ _ _ _ _ _
        · exact put6 HO2.out HR.out (by decide) _ _ _ _ _ _
        · exact drew6 HD.out (Nat.le_refl _) hgs _ _ _ _ _ _
      · clear hj0 hj1
        have J := Lib.hid (any8_any g w3 HD.out.2)
        have hsz := HD.out.1.size
        go_wp2_with fail
        refine (J.out).mono ?_
        rintro e w5 ⟨s2, t2, v1, v2, S1, S2, rfl, hS1, hS2, ho1, ho2, hdq⟩
        obtain ⟨yv, qv, rfl⟩ := ho1.shape
        obtain ⟨yz, qz, rfl⟩ := ho2.shape
        clear J
        replace HR := Lib.hid (HR.out.drewn hdq hng)
        replace HX := Lib.hid (HX.out.drewn hdq hpg)
        replace HO1 := Lib.hid (HO1.out.drew hdq hgs)
        replace HO2 := Lib.hid (HO2.out.drew hdq hgs)
        replace HD := Lib.hid (HD.out.trans hdq)
        clear hdq
        replace HO1 := Lib.hid (OwnI.mono ho1 hsz)
        replace HO2 := Lib.hid (OwnI.mono ho2 hsz)
        clear ho1 ho2
        have hr0 := HR.out.c 0 rfl
        have hr1 := HR.out.c 1 rfl
        have hr2 := HR.out.c 2 rfl
        have hr3 := HR.out.c 3 rfl
        have hr4 := HR.out.c 4 rfl
        have hr5 := HR.out.c 5 rfl
        have hf0 := HR.out.f 0
        have hf1 := HR.out.f 1
        have hf2 := HR.out.f 2
        have hf3 := HR.out.f 3
        have hf4 := HR.out.f 4
        have hf5 := HR.out.f 5
        have hx0 := HX.out.c 0 rfl
        have hx1 := HX.out.c 1 rfl
        have hx2 := HX.out.c 2 rfl
        have hx3 := HX.out.c 3 rfl
        have hx4 := HX.out.c 4 rfl
        have hx5 := HX.out.c 5 rfl
        have hg0 := HX.out.f 0
        have hg1 := HX.out.f 1
        have hg2 := HX.out.f 2
        have hg3 := HX.out.f 3
        have hg4 := HX.out.f 4
        have hg5 := HX.out.f 5
        go_wp2_with fail
        have HXa := HX.out.put 2 (.int .i64 s2)
        have HXb := HXa.put 3 (.int .i64 t2)
        have HXc := HXb.put 4 (.slice yv S1.length qv)
        replace HO1 := Lib.hid (rowI_put (rowI_put (rowI_put (rowI_put HO1.out HX.out (by decide) 2 (.int .i64 s2)) HXa (by decide) 3 (.int .i64 t2)) HXb (by decide) 4 (.slice yv S1.length qv)) HXc (by decide) 5 (.slice yz S2.length qz))
        replace HO2 := Lib.hid (rowI_put (rowI_put (rowI_put (rowI_put HO2.out HX.out (by decide) 2 (.int .i64 s2)) HXa (by decide) 3 (.int .i64 t2)) HXb (by decide) 4 (.slice yv S1.length qv)) HXc (by decide) 5 (.slice yz S2.length qz))
        replace HR := Lib.hid ((((HR.out.keep hnp 2 (.int .i64 s2)).keep hnp 3 (.int .i64 t2)).keep hnp 4 (.slice yv S1.length qv)).keep hnp 5 (.slice yz S2.length qz))
        replace HD := Lib.hid ((((HD.out.setC (Nat.le_of_lt hpw) hgs 2 (.int .i64 s2)).setC (Nat.le_of_lt hpw) hgs 3 (.int .i64 t2)).setC (Nat.le_of_lt hpw) hgs 4 (.slice yv S1.length qv)).setC (Nat.le_of_lt hpw) hgs 5 (.slice yz S2.length qz))
        refine bodyPost_ret (v := .agg #[.int .i64 x, .int .i64 y, .int .i64 s2, .int .i64 t2, .slice yv S1.length qv, .slice yz S2.length qz]) (by simp [results, Try.results30, go_sem, hr0, hr1, hr2, hr3, hr4, hr5, hnp]) rfl ?_
        refine ⟨x, y, s2, t2, _, _, S1, S2, rfl, hS1, hS2, ?_, ?_, ?_⟩
        · exact put6 HO1.out HR.out (by decide) _ _ _ _ _ _
        · exact put6 HO2.out HR.out (by decide) _ _ _ _ _ _
        · exact drew6 HD.out (Nat.le_refl _) hgs _ _ _ _ _ _
      · have g1 : (j == 0) = false := by rw [beq_eq_false_iff_ne]; omega
        have g2 : (j == 1) = false := by rw [beq_eq_false_iff_ne]; omega
        have g3 : (j == 2) = false := by rw [beq_eq_false_iff_ne]; omega
        clear hj hj0 hj1
        have hr0 := HR.out.c 0 rfl
        have hr1 := HR.out.c 1 rfl
        have hr2 := HR.out.c 2 rfl
        have hr3 := HR.out.c 3 rfl
        have hr4 := HR.out.c 4 rfl
        have hr5 := HR.out.c 5 rfl
        have hf0 := HR.out.f 0
        have hf1 := HR.out.f 1
        have hf2 := HR.out.f 2
        have hf3 := HR.out.f 3
        have hf4 := HR.out.f 4
        have hf5 := HR.out.f 5
        have hx0 := HX.out.c 0 rfl
        have hx1 := HX.out.c 1 rfl
        have hx2 := HX.out.c 2 rfl
        have hx3 := HX.out.c 3 rfl
        have hx4 := HX.out.c 4 rfl
        have hx5 := HX.out.c 5 rfl
        have hg0 := HX.out.f 0
        have hg1 := HX.out.f 1
        have hg2 := HX.out.f 2
        have hg3 := HX.out.f 3
        have hg4 := HX.out.f 4
        have hg5 := HX.out.f 5
        go_wp2_with fail
        refine bodyPost_ret (v := .agg #[.int .i64 x, .int .i64 y, .int .i64 s, .int .i64 t, .slice ya R1.length qa, .slice yb R2.length qb]) (by simp [results, Try.results30, go_sem, hr0, hr1, hr2, hr3, hr4, hr5, hnp]) rfl ?_
        refine ⟨x, y, s, t, _, _, R1, R2, rfl, hl1, hl2, ?_, ?_, ?_⟩
        · exact put6 HO1.out HR.out (by decide) _ _ _ _ _ _
        · exact put6 HO2.out HR.out (by decide) _ _ _ _ _ _
        · exact drew6 HD.out (Nat.le_refl _) hgs _ _ _ _ _ _
end Go.Proofs.Ytgjebjoaemeeoaa.kit
