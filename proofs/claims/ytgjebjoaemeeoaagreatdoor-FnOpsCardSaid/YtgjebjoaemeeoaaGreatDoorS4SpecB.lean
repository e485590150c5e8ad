/-
  Chapter 4: spec's ApplyOp, the operation performed, the first of its client.
-/
import Derived.Test.YtgjebjoaemeeoaaGreatDoorS4SpecL
namespace Go.Proofs.YtgjebjoaemeeoaaGreatDoor.kit
open Go.ChangeShapes Go.WideShapes Go.ChangeAt Go.RowKit Go.Maps
set_option linter.unusedVariables false
set_option maxRecDepth 100000 in
set_option maxHeartbeats 16000000 in
theorem appL_first (b1 b2 : Nat) (v1 v2 : Value) (L1 : List Int) (L2 : List Sess) (c s k d v : Int) (n : Nat) (w : World) (h1 : L1.length ≤ 4194304) (h2 : L2.length ≤ 4194303) (o1 : OwnI b1 w v1 L1) (o2 : OwnS b2 w v2 L2) (hm : Hid (decide (MOk L1 L2) = true)) (hv : Hid (okOp c s k n d v = true))
    (hpw : Hid (L2.Pairwise ltS)) (hn3 : Hid (n < L1.length)) (hk : Hid (k = 1 ∨ k = 2)) (hh : Hid (hasSess L2 c = false)) :
    Calls Tryz.prog 105 #[.agg #[v1, v2], opV c s k n d v] w fun e w' => ∃ u1 u2, e = .returned (.tuple #[.agg #[u1, u2], .agg #[.bool (doneO k d (L1.getD n 0)), .int .i64 (L1.getD n 0)], .bool true]) ∧ OwnI w.heap.size w' u1 (setO L1 n k d v) ∧ OwnS w.heap.size w' u2 (insR L2 (c, s, doneO k d (L1.getD n 0), L1.getD n 0)) ∧ Below w.heap.size w w' := by
  obtain ⟨l1, l2, l3, l4, hs0⟩ : ∃ l1 l2 l3 l4, sessOf L2 c = (l1, l2, l3, l4) := ⟨_, _, _, _, rfl⟩
  have hs := Lib.hid hs0
  clear hs0
  obtain ⟨o, ho⟩ : ∃ o : Int, o = (n : Int) := ⟨_, rfl⟩
  rw [← ho] at hv ⊢
  replace h2 : L2.length ≤ 4194304 := by omega
  have Ho := Lib.hid ho
  clear ho
  obtain ⟨y1, q1, rfl⟩ := o1.shape
  obtain ⟨y2, q2, rfl⟩ := o2.shape
  have HO1 := Lib.hid o1
  have HO2 := Lib.hid o2
  clear o1 o2
  go_enter Tryz.func105, Tryz.ntmps105
  unfold opV
  go_wp2_with fail
  obtain ⟨W0, hW0⟩ : ∃ W, W = (((w.alloc (.cells #[.slice y1 L1.length q1, .slice y2 L2.length q2] 44)).alloc (.cells #[.int .i64 c, .int .i64 s, .int .i64 k, .int .i64 o, .int .i64 d, .int .i64 v] 25)).alloc (.cells #[.slice none 0 0, .slice none 0 0] 44)).alloc (.cells #[.bool false, .int .i64 0] 96) := ⟨_, rfl⟩
  rw [← hW0]
  have hs0 : W0.heap.size = w.heap.size + 1 + 1 + 1 + 1 := by rw [hW0]; simp
  have hb0 : Below w.heap.size w W0 := by rw [hW0]; exact ((((Below.refl _ _).alloc (Nat.le_refl _) _).alloc (by simp) _).alloc (by simp; omega) _).alloc (by simp; omega) _
  have hx : W0.cell? ⟨w.heap.size, 0, none⟩ = some (.slice y1 L1.length q1) ∧ W0.cell? ⟨w.heap.size, 1, none⟩ = some (.slice y2 L2.length q2) := by rw [hW0]; constructor <;> go_simp
  have hp : (W0.cell? ⟨w.heap.size + 1, 0, none⟩ = some (.int .i64 c) ∧ W0.cell? ⟨w.heap.size + 1, 1, none⟩ = some (.int .i64 s) ∧ W0.cell? ⟨w.heap.size + 1, 2, none⟩ = some (.int .i64 k)) ∧ W0.cell? ⟨w.heap.size + 1, 3, none⟩ = some (.int .i64 o) ∧ W0.cell? ⟨w.heap.size + 1, 4, none⟩ = some (.int .i64 d) ∧ W0.cell? ⟨w.heap.size + 1, 5, none⟩ = some (.int .i64 v) := by rw [hW0]; refine ⟨⟨?_, ?_, ?_⟩, ?_, ?_, ?_⟩ <;> go_simp
  have hr : W0.cell? ⟨w.heap.size + 1 + 1, 0, none⟩ = some (.slice none 0 0) ∧ W0.cell? ⟨w.heap.size + 1 + 1, 1, none⟩ = some (.slice none 0 0) ∧ W0.cell? ⟨w.heap.size + 1 + 1 + 1, 0, none⟩ = some (.bool false) ∧ W0.cell? ⟨w.heap.size + 1 + 1 + 1, 1, none⟩ = some (.int .i64 0) := by rw [hW0]; refine ⟨?_, ?_, ?_, ?_⟩ <;> go_simp
  have hf : (∀ q, W0.frozen? ⟨w.heap.size + 1 + 1, q, none⟩ = false) ∧ ∀ q, W0.frozen? ⟨w.heap.size + 1 + 1 + 1, q, none⟩ = false := by rw [hW0]; refine ⟨fun q => ?_, fun q => ?_⟩ <;> go_simp
  clear hW0
  refine (l4Copy b1 b2 _ _ L1 L2 W0 h1 h2 (HO1.out.later hb0) (HO2.out.later hb0)).mono ?_
  rintro e w1 ⟨u1, u2, rfl, ho1, ho2, hb1⟩
  obtain ⟨z1, e1, rfl⟩ := ho1.shape
  obtain ⟨z2, e2, rfl⟩ := ho2.shape
  have hM : MidS w.heap.size w1.heap.size w (w1.alloc (.cells #[.slice z1 L1.length e1, .slice z2 L2.length e2] 44)) (.slice y1 L1.length q1) (.slice y2 L2.length q2) (.slice z1 L1.length e1) (.slice z2 L2.length e2) c s k o d v L1 L2 := midS_start hs0 hb0 hx hp hr hf hb1 ho1 ho2
  have HM := Lib.hid hM
  have hx0 := hM.m0
  have hx1 := hM.m1
  have hn0 : w.heap.size ≠ w1.heap.size := by have := hb1.size; omega
  clear hs0 hb0 hx hp hr hf hb1 ho1 ho2 hM
  go_wp2_with fail
  obtain ⟨W1, hW1⟩ : ∃ W, W = w1.alloc (.cells #[.slice z1 L1.length e1, .slice z2 L2.length e2] 44) := ⟨_, rfl⟩
  rw [← hW1] at HM ⊢
  clear hW1 hx0 hx1 hn0 W0
  obtain ⟨X, hX⟩ : ∃ X, X = w1.heap.size := ⟨_, rfl⟩
  rw [← hX] at HM ⊢
  clear hX w1
  refine (specIsValidMachine b1 b2 _ _ L1 L2 W1 h1 h2 (HO1.out.later HM.out.bl) (HO2.out.later HM.out.bl)).mono ?_
  rw [hm.out]
  rintro e w2 ⟨rfl, hb2⟩
  have HM2 := Lib.hid (HM.out.later hb2)
  clear hb2 HM W1
  obtain ⟨hX, sz, m0, m1, p0, p1, p2, p3, p4, p5, a0, a1, r0, r1, x0, x1, f2, f3, fx, -, -, -, -⟩ := HM2.out
  go_wp2_with fail
  have jv := specIsValidOp c s k o d v w2
  unfold opV at jv
  refine jv.mono ?_
  rw [hv.out]
  rintro e w3 ⟨rfl, hb3⟩
  have HM3 := Lib.hid (HM2.out.later hb3)
  clear hb3 HM2 jv hX sz m0 m1 p0 p1 p2 p3 p4 p5 a0 a1 r0 r1 x0 x1 f2 f3 fx
  obtain ⟨hX, sz, m0, m1, p0, p1, p2, p3, p4, p5, a0, a1, r0, r1, x0, x1, f2, f3, fx, -, -, -, -⟩ := HM3.out
  clear w2
  go_wp2_with fail
  have js := specSessionOf b1 b2 _ _ L1 L2 c w3 h1 h2 (HO1.out.later HM3.out.bl) (HO2.out.later HM3.out.bl)
  rw [hs.out, hh.out] at js
  unfold sessV at js
  simp only at js
  refine js.mono ?_
  rintro e w4 ⟨rfl, hb4⟩
  have HM4 := Lib.hid (HM3.out.later hb4)
  have HM5 := Lib.hid (HM4.out.later ((Below.refl w4.heap.size w4).alloc (Nat.le_refl _) (.cells #[.int .i64 l1, .int .i64 l2, .bool l3, .int .i64 l4] 98)))
  have HSX := Lib.hid (show X < w4.heap.size by have := HM4.out.sz; omega)
  clear hb4 HM3 js hX sz m0 m1 p0 p1 p2 p3 p4 p5 a0 a1 r0 r1 x0 x1 f2 f3 fx
  obtain ⟨hX, sz, m0, m1, p0, p1, p2, p3, p4, p5, a0, a1, r0, r1, x0, x1, f2, f3, fx, -, -, -, -⟩ := HM5.out
  clear w3
  rw [Ho.out] at p3 HM5
  obtain ⟨gy, qy, hy, _, _, hgb, hgl⟩ := HO1.out.there (by have := hn3.out; omega)
  injection hy with hy1 _ hy3
  subst hy1 hy3
  obtain ⟨gu, cu, hu, _, _, hub, hul⟩ := HM5.out.o1.there (by have := hn3.out; omega)
  injection hu with hu1 _ hu3
  subst hu1 hu3
  have hn3' := hn3.out
  have cy : (w4.alloc (.cells #[.int .i64 l1, .int .i64 l2, .bool l3, .int .i64 l4] 98)).cell? ⟨gy, n, none⟩ = some (.int .i64 (L1.getD n 0)) := by
    rw [(HO1.out.later HM5.out.bl).row.cellAt n (by omega), List.getElem?_map, List.getElem?_eq_getElem hn3']; simp [List.getD, hn3']
  have HSET := Lib.hid (show setO L1 n k d v = if doneO k d (L1.getD n 0) then L1.set n v else L1 from rfl)
  generalize hx : L1.getD n 0 = x at cy HSET
  generalize hD : doneO k d x = D at HSET
  have HX := Lib.hid hx
  have HD := Lib.hid hD
  clear hx hD hgb hgl hub hul
  go_upto_region 10 with (fail)
  go_cut [11] (fun r wx => r = .pointer (some ⟨w4.heap.size + 1, 0, none⟩) ∧ wx = (w4.alloc (.cells #[.int .i64 l1, .int .i64 l2, .bool l3, .int .i64 l4] 98)).alloc (.cells #[.bool D, .int .i64 x] 96))
  case first =>
    have hdone : (k = 1 ∧ D = true) ∨ (k = 2 ∧ (x == d) = true ∧ D = true) ∨ (k = 2 ∧ (x == d) = false ∧ D = false) := by
      have h := HD.out
      rcases hk.out with e | e
      · subst e; exact .inl ⟨rfl, by rw [← h]; rfl⟩
      · subst e
        cases h2 : (x == d)
        · exact .inr (.inr ⟨rfl, rfl, by rw [← h]; unfold doneO; rw [h2]; rfl⟩)
        · exact .inr (.inl ⟨rfl, rfl, by rw [← h]; unfold doneO; rw [h2]; rfl⟩)
    rcases hdone with ⟨e, e2⟩ | ⟨e, hxd, e2⟩ | ⟨e, hxd, e2⟩
    all_goals
      rw [e] at p2
      have E2 := Lib.hid e2
      clear e2 HD HSET e
      go_wp2_with fail
      go_meet
      exact ⟨rfl, by rw [E2.out]⟩
  case rest =>
    obtain ⟨rfl, rfl⟩ := hcut
    obtain ⟨W6, hW6⟩ : ∃ W, W = (w4.alloc (.cells #[.int .i64 l1, .int .i64 l2, .bool l3, .int .i64 l4] 98)).alloc (.cells #[.bool D, .int .i64 x] 96) := ⟨_, rfl⟩
    obtain ⟨R, hR⟩ : ∃ R, R = w4.heap.size + 1 := ⟨_, rfl⟩
    have e0 : W6.cell? ⟨R, 0, none⟩ = some (.bool D) := by rw [hW6, hR, ← World.size_alloc w4 (.cells #[.int .i64 l1, .int .i64 l2, .bool l3, .int .i64 l4] 98), World.cell?_alloc_at _ _ _ _ rfl]; rfl
    have e1' : W6.cell? ⟨R, 1, none⟩ = some (.int .i64 x) := by rw [hW6, hR, ← World.size_alloc w4 (.cells #[.int .i64 l1, .int .i64 l2, .bool l3, .int .i64 l4] 98), World.cell?_alloc_at _ _ _ _ rfl]; rfl
    have HM6 := Lib.hid (HM5.out.later (by rw [hW6]; exact (Below.refl _ _).alloc (Nat.le_refl _) _ : Below _ _ W6))
    have HRX := Lib.hid (show X < R by have := HSX.out; omega)
    have HRW := Lib.hid (show R < W6.heap.size by rw [hW6, hR]; simp)
    rw [← hW6, ← hR]
    clear hW6 hR HM5 HSX HM4 cy p0 p1 p2 p3 p4 p5 m0 m1 a0 a1 r0 r1 x0 x1 f2 f3 fx hX sz
    obtain ⟨hX, sz, m0, m1, p0, p1, p2, p3, p4, p5, a0, a1, r0, r1, x0, x1, f2, f3, fx, -, -, -, -⟩ := HM6.out
    have cu6 : W6.cell? ⟨gu, n, none⟩ = some (.int .i64 x) := by
      rw [HM6.out.o1.row.cellAt n (by omega), List.getElem?_map, List.getElem?_eq_getElem hn3', ← HX.out]; simp [List.getD, hn3']
    have fu6 : W6.frozen? ⟨gu, n, none⟩ = false := HM6.out.o1.row.frozenAt n
    have rg : R ≠ gu := by have := HM6.out.b1 gu rfl; have := HRX.out; omega
    go_upto_if 72 with (fail)
    go_cut [] (fun wx => MidS w.heap.size X w wx (.slice (some ⟨gy, 0, none⟩) L1.length q1) (.slice y2 L2.length q2) (.slice (some ⟨gu, 0, none⟩) L1.length e1) (.slice z2 L2.length e2) c s k n d v (setO L1 n k d v) L2 ∧ wx.cell? ⟨R, 0, none⟩ = some (.bool D) ∧ wx.cell? ⟨R, 1, none⟩ = some (.int .i64 x) ∧ R < wx.heap.size)
    case first =>
      have HE0 := Lib.hid e0
      have HE1 := Lib.hid e1'
      cases D
      · have HS2 := Lib.hid (show setO L1 n k d v = L1 from HSET.out)
        clear HSET HD
        go_wp2_with fail
        go_meet
        exact ⟨by rw [HS2.out]; exact HM6.out, HE0.out, HE1.out, HRW.out⟩
      · have HS2 := Lib.hid (show setO L1 n k d v = L1.set n v from HSET.out)
        clear HSET HD
        go_wp2_with fail
        go_meet
        exact ⟨by rw [HS2.out]; exact midS_setO HM6.out n hn3.out v, (World.cell?_setCell_other W6 _ _ _ (by simp <;> omega)).trans HE0.out, (World.cell?_setCell_other W6 _ _ _ (by simp <;> omega)).trans HE1.out, by rw [World.size_setCell]; exact HRW.out⟩
    case rest =>
      rename_i W7
      clear e0 e1' HRW
      obtain ⟨hM7, e0, e1', hRW⟩ := hcut
      have HM7 := Lib.hid hM7
      have HRW7 := Lib.hid hRW
      clear hM7 hRW
      obtain ⟨W7, rfl⟩ : ∃ W, W = wc := ⟨_, rfl⟩
      clear HM6 HSET cu6 fu6 rg p0 p1 p2 p3 p4 p5 m0 m1 a0 a1 r0 r1 x0 x1 f2 f3 fx hX sz
      obtain ⟨hX, sz, m0, m1, p0, p1, p2, p3, p4, p5, a0, a1, r0, r1, x0, x1, f2, f3, fx, -, -, -, -⟩ := HM7.out
      go_wp2_with fail
      go_loopw [12] (fun i wr => ∃ q m7 : Nat, q ≤ L2.length ∧ i = .int .i64 q ∧ Hid (∀ j, j < q → (sg L2 j).1 < c) ∧ wr = W7.drewN m7) (fun i _ => L2.length - (intOf i).toNat)
      case atStart => exact ⟨0, 0, Nat.zero_le _, rfl, Lib.hid (fun j h => by omega), rfl⟩
      case round =>
        obtain ⟨q, m7, hq, rfl, HE, rfl⟩ := hrel
        by_cases hlt : q < L2.length
        · obtain ⟨g2, c2, hz2, _, _, _, _⟩ := HM7.out.o2.there (by omega)
          injection hz2 with hz21 _ hz23
          subst hz21 hz23
          obtain ⟨d0, -, -, -⟩ := OwnS.at HM7.out.o2 q hlt
          have k3 : (0 : Int) ≤ (q : Int) := by omega
          have k5 : (q : Int) < (L2.length : Int) := by omega
          have t1 : decide ((q : Int) < (L2.length : Int)) = true := decide_eq_true k5
          by_cases hz : (sg L2 q).1 < c
          · have HE2 := Lib.hid (show ∀ j, j < q + 1 → (sg L2 j).1 < c from fun j hj => by
              by_cases e : j = q
              · rw [e]; exact hz
              · exact HE.out j (by omega))
            generalize (sg L2 q).1 = yc at d0 hz
            have t2 : decide (yc < c) = true := decide_eq_true hz
            go_wp2_with fail
            go_quiet (fail)
            go_wp2_with fail
            go_roundw
            case rel => exact ⟨q + 1, _, by omega, by go_num, HE2, rfl⟩
            case measure => simp [intOf]; omega
          · have HN := Lib.hid (show q < L2.length → ¬ (sg L2 q).1 < c from fun _ => hz)
            generalize (sg L2 q).1 = yc at d0 hz
            have t2 : decide (yc < c) = false := decide_eq_false hz
            go_wp2_with fail
            go_quiet (fail)
            clear t1 t2 d0 hz k5
            generalize hz2 : (some ⟨g2, 0, none⟩ : Option Addr) = z2 at *
            obtain ⟨LI, hLI⟩ : ∃ l, l = insR L2 (c, s, D, x) := ⟨_, rfl⟩
            have HINS := Lib.hid (show LI = L2.take q ++ [(c, s, D, x)] ++ L2.drop q by
              rw [hLI, insR_cut (c, s, D, x) L2 q hpw.out hq HE.out (fun h => by have := HN.out h; show ¬ _ < _; omega)]
              simp [hh.out])
            have HLI := Lib.hid hLI
            clear hLI
            obtain ⟨W8, hW8⟩ : ∃ W, W = (W7.drewN m7).drewN nq := ⟨_, rfl⟩
            have HM8 := Lib.hid ((HM7.out.drewN m7).drewN nq)
            have e08 : W8.cell? ⟨R, 0, none⟩ = some (.bool D) := by rw [hW8]; exact e0
            have e18 : W8.cell? ⟨R, 1, none⟩ = some (.int .i64 x) := by rw [hW8]; exact e1'
            have HRW8 := Lib.hid (show R < W8.heap.size by rw [hW8]; exact HRW7.out)
            rw [← hW8] at HM8 ⊢
            clear hW8 e0 e1' HRW7 HM7 p0 p1 p2 p3 p4 p5 m0 m1 a0 a1 r0 r1 x0 x1 f2 f3 fx hX sz
            obtain ⟨hX, sz, m0, m1, p0, p1, p2, p3, p4, p5, a0, a1, r0, r1, x0, x1, f2, f3, fx, -, -, -, -⟩ := HM8.out
            have hle : L2.length ≤ e2 := by
              obtain ⟨_, _, h', hle', _⟩ := HM8.out.o2.form
              cases h'
              exact hle'
            obtain ⟨sv1, hsv1⟩ : ∃ sv, sv = sliced z2 0 q e2 4 := ⟨_, rfl⟩
            obtain ⟨sv2, hsv2⟩ : ∃ sv, sv = sliced z2 q L2.length e2 4 := ⟨_, rfl⟩
            have R1 : ∀ W, (Instr.slice 42 (.slice z2 L2.length e2) none (some (.int .i64 (q : Int))) none).run Tryz.prog W = .ok sv1 W := fun W => by rw [hsv1]; exact run_upto W z2 L2.length e2 q (by omega)
            have R2 : ∀ W, (Instr.slice 42 (.slice z2 L2.length e2) (some (.int .i64 (q : Int))) none none).run Tryz.prog W = .ok sv2 W := fun W => by rw [hsv2]; exact run_from W z2 L2.length e2 q hq
            have HS1 := Lib.hid (show SrcS W8.heap.size W8 sv1 (L2.take q) by rw [hsv1]; exact src_take (SrcS.own HM8.out.o2) hq hle)
            have HS2 := Lib.hid (show SrcS W8.heap.size W8 sv2 (L2.drop q) by rw [hsv2]; exact src_drop (SrcS.own HM8.out.o2) hq hle)
            clear hsv1 hsv2
            have nX1 : X ≠ W8.heap.size := by omega
            have nX2 : X ≠ W8.heap.size + 1 := by omega
            go_upto_region 19 with (fail)
            go_cut [] (fun wx => ∃ (zv : Option Addr) (ev : Nat), MidS w.heap.size X w wx (.slice (some ⟨gy, 0, none⟩) L1.length q1) (.slice y2 L2.length q2) (.slice (some ⟨gu, 0, none⟩) L1.length e1) (.slice zv LI.length ev) c s k n d v (setO L1 n k d v) LI ∧ wx.cell? ⟨R, 0, none⟩ = some (.bool D) ∧ wx.cell? ⟨R, 1, none⟩ = some (.int .i64 x))
            case rest =>
              obtain ⟨zv, ev, hM9, e09, e19⟩ := hcut
              have HM9 := Lib.hid hM9
              have hXR := HRX.out
              clear hM9
              obtain ⟨hX, sz, m0, m1, p0, p1, p2, p3, p4, p5, a0, a1, r0, r1, x0, x1, f2, f3, fx, -, -, -, -⟩ := HM9.out
              have nR2 : R ≠ w.heap.size + 1 + 1 := by omega
              have nR3 : R ≠ w.heap.size + 1 + 1 + 1 := by omega
              go_wp2_with fail
              go_region
              clear e09 e19 m0 m1 p0 p1 p2 p3 p4 p5 x0 x1 fx nR2 nR3 hXR
              go_wp2_with fail
              refine bodyPost_ret (v := .tuple #[.agg #[.slice (some ⟨gu, 0, none⟩) L1.length e1, .slice zv LI.length ev], .agg #[.bool D, .int .i64 x], .bool true]) (by simp [results, Tryz.results105, go_sem, a0, a1, r0, r1]) rfl ⟨_, _, by rw [HX.out, HD.out], (midS_end HM9.out _ _ _ _).1, by rw [HX.out, HD.out, ← HLI.out]; exact (midS_end HM9.out _ _ _ _).2.1, (midS_end HM9.out _ _ _ _).2.2.drew⟩
            case first =>
              clear R2
              have xa : (W8.alloc (.cells #[] 98)).cell? ⟨X, 1, none⟩ = some (.slice z2 L2.length e2) := (((Below.refl W8.heap.size W8).alloc (Nat.le_refl _) _).cell (p := ⟨X, 1, none⟩) sz).trans x1
              have xb : (W8.alloc (.cells #[.int .i64 c, .int .i64 s, .bool D, .int .i64 x] 98)).cell? ⟨X, 1, none⟩ = some (.slice z2 L2.length e2) := (((Below.refl W8.heap.size W8).alloc (Nat.le_refl _) _).cell (p := ⟨X, 1, none⟩) sz).trans x1
              have xc : ((W8.alloc (.cells #[] 98)).alloc (.cells #[.int .i64 c, .int .i64 s, .bool D, .int .i64 x] 98)).cell? ⟨X, 1, none⟩ = some (.slice z2 L2.length e2) := ((((Below.refl W8.heap.size W8).alloc (Nat.le_refl _) _).alloc (by simp) _).cell (p := ⟨X, 1, none⟩) sz).trans x1
              have xd : ((W8.alloc (.cells #[.int .i64 c, .int .i64 s, .bool D, .int .i64 x] 98)).alloc (.cells #[] 98)).cell? ⟨X, 1, none⟩ = some (.slice z2 L2.length e2) := ((((Below.refl W8.heap.size W8).alloc (Nat.le_refl _) _).alloc (by simp) _).cell (p := ⟨X, 1, none⟩) sz).trans x1
              have TA := Lib.hid (two_a W8)
              have TB := Lib.hid (two_b W8 c s D x)
              have TC := Lib.hid (two_c W8 c s D x)
              have QA := Lib.hid (HS1.out.below TA.out.b (Nat.le_refl _))
              have QB := Lib.hid (HS1.out.below TB.out.b (Nat.le_refl _))
              have QC := Lib.hid (HS1.out.below TC.out.b (Nat.le_refl _))
              have HN1 := Lib.hid (show (⟨w.heap.size + 1, 0, none⟩ : Addr).block < W8.heap.size ∧ (⟨w.heap.size + 1, 1, none⟩ : Addr).block < W8.heap.size ∧ (⟨R, 0, none⟩ : Addr).block < W8.heap.size ∧ (⟨R, 1, none⟩ : Addr).block < W8.heap.size from by have := HRW8.out; exact ⟨by show w.heap.size + 1 < _; omega, by show w.heap.size + 1 < _; omega, by show R < _; omega, by show R < _; omega⟩)
              have HN2 := Lib.hid (show (⟨w.heap.size + 1, 0, none⟩ : Addr).block ≠ X ∧ (⟨w.heap.size + 1, 1, none⟩ : Addr).block ≠ X ∧ (⟨R, 0, none⟩ : Addr).block ≠ X ∧ (⟨R, 1, none⟩ : Addr).block ≠ X from by have := HRX.out; exact ⟨by show w.heap.size + 1 ≠ X; omega, by show w.heap.size + 1 ≠ X; omega, by show R ≠ X; omega, by show R ≠ X; omega⟩)
              have HZX := Lib.hid (show X < W8.heap.size from sz)
              have HE08 := Lib.hid e08
              have HE18 := Lib.hid e18
              have hS0 := s19_drew ⟨p0, p1, e08, e18⟩
              have H5 := Lib.hid (show (fun w' => w'.cell? ⟨w.heap.size + 1, 0, none⟩ = some (.int .i64 c) ∧ w'.cell? ⟨w.heap.size + 1, 1, none⟩ = some (.int .i64 s) ∧ w'.cell? ⟨R, 0, none⟩ = some (.bool D) ∧ w'.cell? ⟨R, 1, none⟩ = some (.int .i64 x) ∧ w'.cell? ⟨X, 1, none⟩ = some (.slice z2 L2.length e2)) W8 from ⟨p0, p1, e08, e18, x1⟩)
              have hS1 : (fun w' => w'.cell? ⟨w.heap.size + 1, 0, none⟩ = some (.int .i64 c) ∧ w'.cell? ⟨w.heap.size + 1, 1, none⟩ = some (.int .i64 s) ∧ w'.cell? ⟨R, 0, none⟩ = some (.bool D) ∧ w'.cell? ⟨R, 1, none⟩ = some (.int .i64 x) ∧ w'.cell? ⟨X, 1, none⟩ = some (.slice z2 L2.length e2)) W8.drew := ⟨p0, p1, e08, e18, x1⟩
              have HN5 := Lib.hid (show (w.heap.size + 1 < W8.heap.size ∧ R < W8.heap.size ∧ X < W8.heap.size) from ⟨by omega, HRW8.out, sz⟩)
              have B12 := Lib.hid (show Below W8.heap.size W8 (W8.alloc (.cells #[.int .i64 c, .int .i64 s, .bool D, .int .i64 x] 98)).drew from ((Below.refl _ _).alloc (Nat.le_refl _) _).drew)
              have HX1 := Lib.hid x1
              have HFX := Lib.hid fx
              clear p0 p1 p2 p3 p4 p5 m0 m1 a0 a1 r0 r1 x0 f2 f3 fx e08 e18 hS0 xa xb xc xd x1
              refine Any.region (n := 17) (S := fun w' => w'.cell? ⟨w.heap.size + 1, 0, none⟩ = some (.int .i64 c) ∧ w'.cell? ⟨w.heap.size + 1, 1, none⟩ = some (.int .i64 s) ∧ w'.cell? ⟨R, 0, none⟩ = some (.bool D) ∧ w'.cell? ⟨R, 1, none⟩ = some (.int .i64 x) ∧ w'.cell? ⟨X, 1, none⟩ = some (.slice z2 L2.length e2)) (by kernel_rfl) ?_
              refine Any.take (i := 1) (oi := { dst := some 109, op := Op.fieldAddr 44 (Operand.tmp 7) 1, type := 0, pos := "l04_machine.go:60", after := #[], guard := none }) (v := ?_) rfl (by kernel_rfl) (by kernel_rfl) (by kernel_rfl) (by kernel_rfl) (fun _ _ _ h => h) (Or.inl ⟨by rfl, ?_⟩) hS1 ?_
              rotate_left
              · intro wq hSq
                obtain ⟨hq0, hq1, hq2, hq3, hq4⟩ := hSq
                go_simp
                try (with_reducible rfl)
              try simp only [Act.put, List.setIfInBounds_toArray, List.set_cons_zero, List.set_cons_succ]
              refine Any.take (i := 2) (oi := { dst := some 110, op := Op.load 42 (Operand.tmp 109), type := 42, pos := "l04_machine.go:60", after := #[{ on := 1, ground := Ground.data }], guard := none }) (v := ?_) rfl (by kernel_rfl) (by kernel_rfl) (by kernel_rfl) (by kernel_rfl) (fun _ _ _ h => h) (Or.inl ⟨by rfl, ?_⟩) hS1 ?_
              rotate_left
              · intro wq hSq
                obtain ⟨hq0, hq1, hq2, hq3, hq4⟩ := hSq
                go_simp
                try (with_reducible rfl)
              try simp only [Act.put, List.setIfInBounds_toArray, List.set_cons_zero, List.set_cons_succ]
              refine Any.take (i := 3) (oi := { dst := some 111, op := Op.move (Operand.tmp 12), type := 3, pos := "l04_machine.go:60", after := #[], guard := none }) (v := ?_) rfl (by kernel_rfl) (by kernel_rfl) (by kernel_rfl) (by kernel_rfl) (fun _ _ _ h => h) (Or.inl ⟨by rfl, ?_⟩) hS1 ?_
              rotate_left
              · intro wq hSq
                obtain ⟨hq0, hq1, hq2, hq3, hq4⟩ := hSq
                go_simp
                try (with_reducible rfl)
              try simp only [Act.put, List.setIfInBounds_toArray, List.set_cons_zero, List.set_cons_succ]
              refine Any.take (i := 4) (oi := { dst := some 112, op := Op.slice 42 (Operand.tmp 110) none (some (Operand.tmp 111)) none, type := 42, pos := "l04_machine.go:60", after := #[{ on := 2, ground := Ground.data }, { on := 3, ground := Ground.data }], guard := none }) (v := ?_) rfl (by kernel_rfl) (by kernel_rfl) (by kernel_rfl) (by kernel_rfl) (fun _ _ _ h => h) (Or.inl ⟨by rfl, ?_⟩) hS1 ?_
              rotate_left
              · intro wq hSq
                obtain ⟨hq0, hq1, hq2, hq3, hq4⟩ := hSq
                go_simp
                try (with_reducible rfl)
              try simp only [Act.put, List.setIfInBounds_toArray, List.set_cons_zero, List.set_cons_succ]
              refine Any.take (i := 6) (oi := { dst := some 114, op := Op.fieldAddr 25 (Operand.tmp 3) 0, type := 0, pos := "l04_machine.go:60", after := #[], guard := none }) (v := ?_) rfl (by kernel_rfl) (by kernel_rfl) (by kernel_rfl) (by kernel_rfl) (fun _ _ _ h => h) (Or.inl ⟨by rfl, ?_⟩) hS1 ?_
              rotate_left
              · intro wq hSq
                obtain ⟨hq0, hq1, hq2, hq3, hq4⟩ := hSq
                go_simp
                try (with_reducible rfl)
              try simp only [Act.put, List.setIfInBounds_toArray, List.set_cons_zero, List.set_cons_succ]
              refine Any.take (i := 7) (oi := { dst := some 115, op := Op.load 3 (Operand.tmp 114), type := 3, pos := "l04_machine.go:60", after := #[{ on := 6, ground := Ground.data }], guard := none }) (v := ?_) rfl (by kernel_rfl) (by kernel_rfl) (by kernel_rfl) (by kernel_rfl) (fun _ _ _ h => h) (Or.inl ⟨by rfl, ?_⟩) hS1 ?_
              rotate_left
              · intro wq hSq
                obtain ⟨hq0, hq1, hq2, hq3, hq4⟩ := hSq
                go_simp
                try (with_reducible rfl)
              try simp only [Act.put, List.setIfInBounds_toArray, List.set_cons_zero, List.set_cons_succ]
              refine Any.take (i := 8) (oi := { dst := some 116, op := Op.fieldAddr 25 (Operand.tmp 3) 1, type := 0, pos := "l04_machine.go:60", after := #[], guard := none }) (v := ?_) rfl (by kernel_rfl) (by kernel_rfl) (by kernel_rfl) (by kernel_rfl) (fun _ _ _ h => h) (Or.inl ⟨by rfl, ?_⟩) hS1 ?_
              rotate_left
              · intro wq hSq
                obtain ⟨hq0, hq1, hq2, hq3, hq4⟩ := hSq
                go_simp
                try (with_reducible rfl)
              try simp only [Act.put, List.setIfInBounds_toArray, List.set_cons_zero, List.set_cons_succ]
              refine Any.take (i := 9) (oi := { dst := some 117, op := Op.load 3 (Operand.tmp 116), type := 3, pos := "l04_machine.go:60", after := #[{ on := 8, ground := Ground.data }], guard := none }) (v := ?_) rfl (by kernel_rfl) (by kernel_rfl) (by kernel_rfl) (by kernel_rfl) (fun _ _ _ h => h) (Or.inl ⟨by rfl, ?_⟩) hS1 ?_
              rotate_left
              · intro wq hSq
                obtain ⟨hq0, hq1, hq2, hq3, hq4⟩ := hSq
                go_simp
                try (with_reducible rfl)
              try simp only [Act.put, List.setIfInBounds_toArray, List.set_cons_zero, List.set_cons_succ]
              refine Any.take (i := 10) (oi := { dst := some 118, op := Op.load 96 (Operand.tmp 11), type := 96, pos := "l04_machine.go:60", after := #[], guard := none }) (v := ?_) rfl (by kernel_rfl) (by kernel_rfl) (by kernel_rfl) (by kernel_rfl) (fun _ _ _ h => h) (Or.inl ⟨by rfl, ?_⟩) hS1 ?_
              rotate_left
              · intro wq hSq
                obtain ⟨hq0, hq1, hq2, hq3, hq4⟩ := hSq
                go_simp
                try (with_reducible rfl)
              try simp only [Act.put, List.setIfInBounds_toArray, List.set_cons_zero, List.set_cons_succ]
              refine Any.take (i := 11) (oi := { dst := some 119, op := Op.build 98 #[(0, Operand.tmp 115), (1, Operand.tmp 117), (2, Operand.tmp 118)], type := 98, pos := "l04_machine.go:60", after := #[{ on := 7, ground := Ground.data }, { on := 9, ground := Ground.data }, { on := 10, ground := Ground.data }], guard := none }) (v := ?_) rfl (by kernel_rfl) (by kernel_rfl) (by kernel_rfl) (by kernel_rfl) (fun _ _ _ h => h) (Or.inl ⟨by rfl, ?_⟩) hS1 ?_
              rotate_left
              · intro wq hSq
                obtain ⟨hq0, hq1, hq2, hq3, hq4⟩ := hSq
                go_simp
                try (with_reducible rfl)
              try simp only [Act.put, List.setIfInBounds_toArray, List.set_cons_zero, List.set_cons_succ]
              refine Any.take (i := 14) (oi := { dst := some 122, op := Op.move (Operand.tmp 13), type := 42, pos := "l04_machine.go:60", after := #[], guard := none }) (v := ?_) rfl (by kernel_rfl) (by kernel_rfl) (by kernel_rfl) (by kernel_rfl) (fun _ _ _ h => h) (Or.inl ⟨by rfl, ?_⟩) hS1 ?_
              rotate_left
              · intro wq hSq
                obtain ⟨hq0, hq1, hq2, hq3, hq4⟩ := hSq
                go_simp
                try (with_reducible rfl)
              try simp only [Act.put, List.setIfInBounds_toArray, List.set_cons_zero, List.set_cons_succ]
              clear R1 hS1
              refine Any.all (rs := [0, 12]) (by kernel_rfl) (by simp) ?_
              intro i hi
              simp only [List.mem_cons, List.not_mem_nil, or_false] at hi
              rcases hi with rfl | rfl
              · skip
                refine wpOp_step (o := { dst := some 108, op := Op.buildSlice 42 0 #[], type := 42, pos := "l04_machine.go:60", after := #[], guard := none }) rfl (fun K' hK => ?_)
                have HK := Lib.hid hK
                clear hK
                go_simp
                refine HK.out _ _ ⟨fun _ => s5_below H5.out TA.out.b HN5, ?_⟩
                clear HK K'
                try simp only [Act.put, List.setIfInBounds_toArray, List.set_cons_zero, List.set_cons_succ]
                refine Any.all (rs := [5, 12]) (by kernel_rfl) (by simp) ?_
                intro i hi
                simp only [List.mem_cons, List.not_mem_nil, or_false] at hi
                rcases hi with rfl | rfl
                · skip
                  refine wpOp_step (o := { dst := some 113, op := Op.call { callee := Callee.builtin Builtin.append, args := #[Operand.tmp 108, Operand.tmp 112], argTypes := #[42, 42] }, type := 42, pos := "l04_machine.go:60", after := #[{ on := 0, ground := Ground.data }, { on := 4, ground := Ground.data }], guard := none }) rfl (fun K' hK => ?_)
                  have HK := Lib.hid hK
                  clear hK
                  refine step_appS rfl (.tmp 108) (.tmp 112) rfl W8.heap.size (.slice (some ⟨W8.heap.size, 0, none⟩) 0 0) [] ?_ ?_ W8.heap.size sv1 (L2.take q) ?_ ?_ (len_a L2 q h2) ?_ ?_
                  · simp [Act.eval]
                  · exact TA.out.o
                  · simp [Act.eval]
                  · exact QA.out
                  · exact TA.out.z
                  intro v1 w1 ho1 hb1 hg1
                  have HB1 := Lib.hid (TA.out.b.trans hb1)
                  have hz1 := Nat.le_trans TA.out.z hb1.size
                  refine HK.out _ _ ⟨fun _ => s5_below H5.out HB1.out HN5, ?_⟩
                  clear HK K'
                  try simp only [Act.put, List.setIfInBounds_toArray, List.set_cons_zero, List.set_cons_succ]
                  refine Any.all (rs := [12]) (by kernel_rfl) (by simp) ?_
                  intro i hi
                  simp only [List.mem_cons, List.not_mem_nil, or_false] at hi
                  subst hi
                  refine wpOp_step (o := { dst := some 120, op := Op.buildSlice 42 1 #[(0, Operand.tmp 119)], type := 42, pos := "l04_machine.go:60", after := #[{ on := 11, ground := Ground.data }], guard := none }) rfl (fun K' hK => ?_)
                  have HK := Lib.hid hK
                  clear hK
                  go_simp
                  refine HK.out _ _ ⟨fun _ => s5_below H5.out (HB1.out.trans (((Below.refl w1.heap.size w1).alloc (Nat.le_refl _) _).mono hz1)) HN5, ?_⟩
                  clear HK K'
                  try simp only [Act.put, List.setIfInBounds_toArray, List.set_cons_zero, List.set_cons_succ]
                  refine Any.all (rs := [13]) (by kernel_rfl) (by simp) ?_
                  intro i hi
                  simp only [List.mem_cons, List.not_mem_nil, or_false] at hi
                  subst hi
                  refine wpOp_step (o := { dst := some 121, op := Op.call { callee := Callee.builtin Builtin.append, args := #[Operand.tmp 113, Operand.tmp 120], argTypes := #[42, 42] }, type := 42, pos := "l04_machine.go:60", after := #[{ on := 5, ground := Ground.data }, { on := 12, ground := Ground.data }, { on := 5, ground := Ground.chain }], guard := none }) rfl (fun K' hK => ?_)
                  have HK := Lib.hid hK
                  clear hK
                  refine step_appS rfl (.tmp 113) (.tmp 120) rfl W8.heap.size v1 ([] ++ L2.take q) ?_ ?_ (w1.heap.size + 1) (.slice (some ⟨w1.heap.size, 0, none⟩) 1 1) [(c, s, D, x)] ?_ ?_ (len_b L2 q _ h2) ?_ ?_
                  · simp [Act.eval]
                  · exact (OwnS.later ho1 ((Below.refl _ _).alloc (Nat.le_refl _) _))
                  · simp [Act.eval]
                  · exact (litS w1 c s D x)
                  · exact (Nat.le_trans hz1 (size_up w1 _))
                  intro v2 w2 ho2 hb2 hg2
                  have HB2 := Lib.hid (HB1.out.trans ((((Below.refl w1.heap.size w1).alloc (Nat.le_refl _) _).mono hz1).trans hb2))
                  have hz2 := Nat.le_trans hz1 (Nat.le_trans (size_up w1 _) hb2.size)
                  refine HK.out _ _ ⟨fun _ => s5_below H5.out HB2.out HN5, ?_⟩
                  clear HK K'
                  try simp only [Act.put, List.setIfInBounds_toArray, List.set_cons_zero, List.set_cons_succ]
                  refine Any.all (rs := [15]) (by kernel_rfl) (by simp) ?_
                  intro i hi
                  simp only [List.mem_cons, List.not_mem_nil, or_false] at hi
                  subst hi
                  refine wpOp_step (o := { dst := some 123, op := Op.call { callee := Callee.builtin Builtin.append, args := #[Operand.tmp 121, Operand.tmp 122], argTypes := #[42, 42] }, type := 42, pos := "l04_machine.go:60", after := #[{ on := 13, ground := Ground.data }, { on := 14, ground := Ground.data }, { on := 13, ground := Ground.chain }], guard := none }) rfl (fun K' hK => ?_)
                  have HK := Lib.hid hK
                  clear hK
                  refine step_appS rfl (.tmp 121) (.tmp 122) rfl W8.heap.size v2 (([] ++ L2.take q) ++ [(c, s, D, x)]) ?_ ?_ W8.heap.size sv2 (L2.drop q) ?_ ?_ (len_c L2 q _ _ h2) ?_ ?_
                  · simp [Act.eval]
                  · exact ho2
                  · simp [Act.eval]
                  · exact (HS2.out.below HB2.out (Nat.le_refl _))
                  · exact hz2
                  intro v3 w3 ho3 hb3 hg3
                  have HB3 := Lib.hid (HB2.out.trans hb3)
                  have HO3 := Lib.hid (show OwnS W8.heap.size w3 v3 LI by rw [HINS.out]; simpa using ho3)
                  obtain ⟨zv, ev, rfl⟩ := HO3.out.shape
                  have sx : w3.cell? ⟨X, 1, none⟩ = some (.slice z2 L2.length e2) := (HB3.out.cell (p := ⟨X, 1, none⟩) (show X < W8.heap.size from HZX.out)).trans HX1.out
                  have sf : w3.frozen? ⟨X, 1, none⟩ = false := (HB3.out.frozen (p := ⟨X, 1, none⟩) (show X < W8.heap.size from HZX.out)).trans (HFX.out 1)
                  refine HK.out _ _ ⟨fun _ => s5_below H5.out HB3.out HN5, ?_⟩
                  clear HK K'
                  try simp only [Act.put, List.setIfInBounds_toArray, List.set_cons_zero, List.set_cons_succ]
                  refine Any.all (rs := [16]) (by kernel_rfl) (by simp) ?_
                  intro i hi
                  simp only [List.mem_cons, List.not_mem_nil, or_false] at hi
                  subst hi
                  refine wpOp_step (o := { dst := some 124, op := Op.fieldAddr 44 (Operand.tmp 7) 1, type := 0, pos := "l04_machine.go:60", after := #[{ on := 0, ground := Ground.phase }, { on := 1, ground := Ground.phase }, { on := 2, ground := Ground.phase }, { on := 3, ground := Ground.phase }, { on := 4, ground := Ground.phase }, { on := 5, ground := Ground.phase }, { on := 6, ground := Ground.phase }, { on := 7, ground := Ground.phase }, { on := 8, ground := Ground.phase }, { on := 9, ground := Ground.phase }, { on := 10, ground := Ground.phase }, { on := 11, ground := Ground.phase }, { on := 12, ground := Ground.phase }, { on := 13, ground := Ground.phase }, { on := 14, ground := Ground.phase }, { on := 15, ground := Ground.phase }], guard := none }) rfl (fun K' hK => ?_)
                  have HK := Lib.hid hK
                  clear hK
                  go_simp
                  refine HK.out _ _ ⟨fun _ => s5_below H5.out HB3.out HN5, ?_⟩
                  clear HK K'
                  try simp only [Act.put, List.setIfInBounds_toArray, List.set_cons_zero, List.set_cons_succ]
                  refine Any.all (rs := [17]) (by kernel_rfl) (by simp) ?_
                  intro i hi
                  simp only [List.mem_cons, List.not_mem_nil, or_false] at hi
                  subst hi
                  refine wpOp_step (o := { dst := none, op := Op.store 42 (Operand.tmp 124) (Operand.tmp 123), type := 0, pos := "l04_machine.go:60", after := #[{ on := 16, ground := Ground.data }, { on := 15, ground := Ground.data }, { on := 15, ground := Ground.chain }, { on := 0, ground := Ground.phase }, { on := 1, ground := Ground.phase }, { on := 2, ground := Ground.phase }, { on := 3, ground := Ground.phase }, { on := 4, ground := Ground.phase }, { on := 5, ground := Ground.phase }, { on := 6, ground := Ground.phase }, { on := 7, ground := Ground.phase }, { on := 8, ground := Ground.phase }, { on := 9, ground := Ground.phase }, { on := 10, ground := Ground.phase }, { on := 11, ground := Ground.phase }, { on := 12, ground := Ground.phase }, { on := 13, ground := Ground.phase }, { on := 14, ground := Ground.phase }, { on := 15, ground := Ground.phase }], guard := none }) rfl (fun K' hK => ?_)
                  have HK := Lib.hid hK
                  clear hK
                  go_simp
                  refine HK.out _ _ ⟨fun h => absurd rfl h, ?_⟩
                  clear HK K'
                  try simp only [Act.put, List.setIfInBounds_toArray, List.set_cons_zero, List.set_cons_succ]
                  refine Any.done (by kernel_rfl) ?_ _
                  have HM9 := Lib.hid (midS_put HM8.out HB3.out HO3.out)
                  have hRX : R ≠ X := by have := HRX.out; omega
                  have e09 := (World.cell?_of_block (a := ⟨R, 0, none⟩) (Below.heap_setCell w3 ⟨X, 1, none⟩ (.slice zv LI.length ev) R hRX)).trans ((HB3.out.cell (p := ⟨R, 0, none⟩) HRW8.out).trans HE08.out)
                  have e19 := (World.cell?_of_block (a := ⟨R, 1, none⟩) (Below.heap_setCell w3 ⟨X, 1, none⟩ (.slice zv LI.length ev) R hRX)).trans ((HB3.out.cell (p := ⟨R, 1, none⟩) HRW8.out).trans HE18.out)
                  have HMM := Lib.hid (⟨HM9.out, e09, e19⟩ : MidS w.heap.size X w (w3.setCell ⟨X, 1, none⟩ (.slice zv LI.length ev)) (.slice (some ⟨gy, 0, none⟩) L1.length q1) (.slice y2 L2.length q2) (.slice (some ⟨gu, 0, none⟩) L1.length e1) (.slice zv LI.length ev) c s k n d v (setO L1 n k d v) LI ∧ (w3.setCell ⟨X, 1, none⟩ (.slice zv LI.length ev)).cell? ⟨R, 0, none⟩ = some (.bool D) ∧ (w3.setCell ⟨X, 1, none⟩ (.slice zv LI.length ev)).cell? ⟨R, 1, none⟩ = some (.int .i64 x))
                  clear sx sf hRX e09 e19 HM9
                  go_wp2_with fail
                  go_meet
                  exact ⟨zv, ev, HMM.out⟩
                · skip
                  refine wpOp_step (o := { dst := some 120, op := Op.buildSlice 42 1 #[(0, Operand.tmp 119)], type := 42, pos := "l04_machine.go:60", after := #[{ on := 11, ground := Ground.data }], guard := none }) rfl (fun K' hK => ?_)
                  have HK := Lib.hid hK
                  clear hK
                  go_simp
                  refine HK.out _ _ ⟨fun _ => s5_below H5.out TB.out.b HN5, ?_⟩
                  clear HK K'
                  try simp only [Act.put, List.setIfInBounds_toArray, List.set_cons_zero, List.set_cons_succ]
                  refine Any.all (rs := [5]) (by kernel_rfl) (by simp) ?_
                  intro i hi
                  simp only [List.mem_cons, List.not_mem_nil, or_false] at hi
                  subst hi
                  refine wpOp_step (o := { dst := some 113, op := Op.call { callee := Callee.builtin Builtin.append, args := #[Operand.tmp 108, Operand.tmp 112], argTypes := #[42, 42] }, type := 42, pos := "l04_machine.go:60", after := #[{ on := 0, ground := Ground.data }, { on := 4, ground := Ground.data }], guard := none }) rfl (fun K' hK => ?_)
                  have HK := Lib.hid hK
                  clear hK
                  refine step_appS rfl (.tmp 108) (.tmp 112) rfl W8.heap.size (.slice (some ⟨W8.heap.size, 0, none⟩) 0 0) [] ?_ ?_ W8.heap.size sv1 (L2.take q) ?_ ?_ (len_a L2 q h2) ?_ ?_
                  · simp [Act.eval]
                  · exact TB.out.o
                  · simp [Act.eval]
                  · exact QB.out
                  · exact TB.out.z
                  intro v1 w1 ho1 hb1 hg1
                  have HB1 := Lib.hid (TB.out.b.trans hb1)
                  have hz1 := Nat.le_trans TB.out.z hb1.size
                  have HLb := Lib.hid (lit_b hg1)
                  refine HK.out _ _ ⟨fun _ => s5_below H5.out HB1.out HN5, ?_⟩
                  clear HK K'
                  try simp only [Act.put, List.setIfInBounds_toArray, List.set_cons_zero, List.set_cons_succ]
                  refine Any.all (rs := [13]) (by kernel_rfl) (by simp) ?_
                  intro i hi
                  simp only [List.mem_cons, List.not_mem_nil, or_false] at hi
                  subst hi
                  refine wpOp_step (o := { dst := some 121, op := Op.call { callee := Callee.builtin Builtin.append, args := #[Operand.tmp 113, Operand.tmp 120], argTypes := #[42, 42] }, type := 42, pos := "l04_machine.go:60", after := #[{ on := 5, ground := Ground.data }, { on := 12, ground := Ground.data }, { on := 5, ground := Ground.chain }], guard := none }) rfl (fun K' hK => ?_)
                  have HK := Lib.hid hK
                  clear hK
                  refine step_appS rfl (.tmp 113) (.tmp 120) rfl W8.heap.size v1 ([] ++ L2.take q) ?_ ?_ (W8.heap.size + 2) (.slice (some ⟨W8.heap.size + 1, 0, none⟩) 1 1) [(c, s, D, x)] ?_ ?_ (len_b L2 q _ h2) ?_ ?_
                  · simp [Act.eval]
                  · exact ho1
                  · simp [Act.eval]
                  · exact HLb.out
                  · exact hz1
                  intro v2 w2 ho2 hb2 hg2
                  have HB2 := Lib.hid (HB1.out.trans hb2)
                  have hz2 := Nat.le_trans hz1 hb2.size
                  refine HK.out _ _ ⟨fun _ => s5_below H5.out HB2.out HN5, ?_⟩
                  clear HK K'
                  try simp only [Act.put, List.setIfInBounds_toArray, List.set_cons_zero, List.set_cons_succ]
                  refine Any.all (rs := [15]) (by kernel_rfl) (by simp) ?_
                  intro i hi
                  simp only [List.mem_cons, List.not_mem_nil, or_false] at hi
                  subst hi
                  refine wpOp_step (o := { dst := some 123, op := Op.call { callee := Callee.builtin Builtin.append, args := #[Operand.tmp 121, Operand.tmp 122], argTypes := #[42, 42] }, type := 42, pos := "l04_machine.go:60", after := #[{ on := 13, ground := Ground.data }, { on := 14, ground := Ground.data }, { on := 13, ground := Ground.chain }], guard := none }) rfl (fun K' hK => ?_)
                  have HK := Lib.hid hK
                  clear hK
                  refine step_appS rfl (.tmp 121) (.tmp 122) rfl W8.heap.size v2 (([] ++ L2.take q) ++ [(c, s, D, x)]) ?_ ?_ W8.heap.size sv2 (L2.drop q) ?_ ?_ (len_c L2 q _ _ h2) ?_ ?_
                  · simp [Act.eval]
                  · exact ho2
                  · simp [Act.eval]
                  · exact (HS2.out.below HB2.out (Nat.le_refl _))
                  · exact hz2
                  intro v3 w3 ho3 hb3 hg3
                  have HB3 := Lib.hid (HB2.out.trans hb3)
                  have HO3 := Lib.hid (show OwnS W8.heap.size w3 v3 LI by rw [HINS.out]; simpa using ho3)
                  obtain ⟨zv, ev, rfl⟩ := HO3.out.shape
                  have sx : w3.cell? ⟨X, 1, none⟩ = some (.slice z2 L2.length e2) := (HB3.out.cell (p := ⟨X, 1, none⟩) (show X < W8.heap.size from HZX.out)).trans HX1.out
                  have sf : w3.frozen? ⟨X, 1, none⟩ = false := (HB3.out.frozen (p := ⟨X, 1, none⟩) (show X < W8.heap.size from HZX.out)).trans (HFX.out 1)
                  refine HK.out _ _ ⟨fun _ => s5_below H5.out HB3.out HN5, ?_⟩
                  clear HK K'
                  try simp only [Act.put, List.setIfInBounds_toArray, List.set_cons_zero, List.set_cons_succ]
                  refine Any.all (rs := [16]) (by kernel_rfl) (by simp) ?_
                  intro i hi
                  simp only [List.mem_cons, List.not_mem_nil, or_false] at hi
                  subst hi
                  refine wpOp_step (o := { dst := some 124, op := Op.fieldAddr 44 (Operand.tmp 7) 1, type := 0, pos := "l04_machine.go:60", after := #[{ on := 0, ground := Ground.phase }, { on := 1, ground := Ground.phase }, { on := 2, ground := Ground.phase }, { on := 3, ground := Ground.phase }, { on := 4, ground := Ground.phase }, { on := 5, ground := Ground.phase }, { on := 6, ground := Ground.phase }, { on := 7, ground := Ground.phase }, { on := 8, ground := Ground.phase }, { on := 9, ground := Ground.phase }, { on := 10, ground := Ground.phase }, { on := 11, ground := Ground.phase }, { on := 12, ground := Ground.phase }, { on := 13, ground := Ground.phase }, { on := 14, ground := Ground.phase }, { on := 15, ground := Ground.phase }], guard := none }) rfl (fun K' hK => ?_)
                  have HK := Lib.hid hK
                  clear hK
                  go_simp
                  refine HK.out _ _ ⟨fun _ => s5_below H5.out HB3.out HN5, ?_⟩
                  clear HK K'
                  try simp only [Act.put, List.setIfInBounds_toArray, List.set_cons_zero, List.set_cons_succ]
                  refine Any.all (rs := [17]) (by kernel_rfl) (by simp) ?_
                  intro i hi
                  simp only [List.mem_cons, List.not_mem_nil, or_false] at hi
                  subst hi
                  refine wpOp_step (o := { dst := none, op := Op.store 42 (Operand.tmp 124) (Operand.tmp 123), type := 0, pos := "l04_machine.go:60", after := #[{ on := 16, ground := Ground.data }, { on := 15, ground := Ground.data }, { on := 15, ground := Ground.chain }, { on := 0, ground := Ground.phase }, { on := 1, ground := Ground.phase }, { on := 2, ground := Ground.phase }, { on := 3, ground := Ground.phase }, { on := 4, ground := Ground.phase }, { on := 5, ground := Ground.phase }, { on := 6, ground := Ground.phase }, { on := 7, ground := Ground.phase }, { on := 8, ground := Ground.phase }, { on := 9, ground := Ground.phase }, { on := 10, ground := Ground.phase }, { on := 11, ground := Ground.phase }, { on := 12, ground := Ground.phase }, { on := 13, ground := Ground.phase }, { on := 14, ground := Ground.phase }, { on := 15, ground := Ground.phase }], guard := none }) rfl (fun K' hK => ?_)
                  have HK := Lib.hid hK
                  clear hK
                  go_simp
                  refine HK.out _ _ ⟨fun h => absurd rfl h, ?_⟩
                  clear HK K'
                  try simp only [Act.put, List.setIfInBounds_toArray, List.set_cons_zero, List.set_cons_succ]
                  refine Any.done (by kernel_rfl) ?_ _
                  have HM9 := Lib.hid (midS_put HM8.out HB3.out HO3.out)
                  have hRX : R ≠ X := by have := HRX.out; omega
                  have e09 := (World.cell?_of_block (a := ⟨R, 0, none⟩) (Below.heap_setCell w3 ⟨X, 1, none⟩ (.slice zv LI.length ev) R hRX)).trans ((HB3.out.cell (p := ⟨R, 0, none⟩) HRW8.out).trans HE08.out)
                  have e19 := (World.cell?_of_block (a := ⟨R, 1, none⟩) (Below.heap_setCell w3 ⟨X, 1, none⟩ (.slice zv LI.length ev) R hRX)).trans ((HB3.out.cell (p := ⟨R, 1, none⟩) HRW8.out).trans HE18.out)
                  have HMM := Lib.hid (⟨HM9.out, e09, e19⟩ : MidS w.heap.size X w (w3.setCell ⟨X, 1, none⟩ (.slice zv LI.length ev)) (.slice (some ⟨gy, 0, none⟩) L1.length q1) (.slice y2 L2.length q2) (.slice (some ⟨gu, 0, none⟩) L1.length e1) (.slice zv LI.length ev) c s k n d v (setO L1 n k d v) LI ∧ (w3.setCell ⟨X, 1, none⟩ (.slice zv LI.length ev)).cell? ⟨R, 0, none⟩ = some (.bool D) ∧ (w3.setCell ⟨X, 1, none⟩ (.slice zv LI.length ev)).cell? ⟨R, 1, none⟩ = some (.int .i64 x))
                  clear sx sf hRX e09 e19 HM9
                  go_wp2_with fail
                  go_meet
                  exact ⟨zv, ev, HMM.out⟩
              · skip
                refine wpOp_step (o := { dst := some 120, op := Op.buildSlice 42 1 #[(0, Operand.tmp 119)], type := 42, pos := "l04_machine.go:60", after := #[{ on := 11, ground := Ground.data }], guard := none }) rfl (fun K' hK => ?_)
                have HK := Lib.hid hK
                clear hK
                go_simp
                refine HK.out _ _ ⟨fun _ => s5_below H5.out B12.out HN5, ?_⟩
                clear HK K'
                try simp only [Act.put, List.setIfInBounds_toArray, List.set_cons_zero, List.set_cons_succ]
                refine Any.all (rs := [0]) (by kernel_rfl) (by simp) ?_
                intro i hi
                simp only [List.mem_cons, List.not_mem_nil, or_false] at hi
                subst hi
                refine wpOp_step (o := { dst := some 108, op := Op.buildSlice 42 0 #[], type := 42, pos := "l04_machine.go:60", after := #[], guard := none }) rfl (fun K' hK => ?_)
                have HK := Lib.hid hK
                clear hK
                go_simp
                refine HK.out _ _ ⟨fun _ => s5_below H5.out TC.out.b HN5, ?_⟩
                clear HK K'
                try simp only [Act.put, List.setIfInBounds_toArray, List.set_cons_zero, List.set_cons_succ]
                refine Any.all (rs := [5]) (by kernel_rfl) (by simp) ?_
                intro i hi
                simp only [List.mem_cons, List.not_mem_nil, or_false] at hi
                subst hi
                refine wpOp_step (o := { dst := some 113, op := Op.call { callee := Callee.builtin Builtin.append, args := #[Operand.tmp 108, Operand.tmp 112], argTypes := #[42, 42] }, type := 42, pos := "l04_machine.go:60", after := #[{ on := 0, ground := Ground.data }, { on := 4, ground := Ground.data }], guard := none }) rfl (fun K' hK => ?_)
                have HK := Lib.hid hK
                clear hK
                refine step_appS rfl (.tmp 108) (.tmp 112) rfl W8.heap.size (.slice (some ⟨W8.heap.size + 1, 0, none⟩) 0 0) [] ?_ ?_ W8.heap.size sv1 (L2.take q) ?_ ?_ (len_a L2 q h2) ?_ ?_
                · simp [Act.eval]
                · exact TC.out.o
                · simp [Act.eval]
                · exact QC.out
                · exact TC.out.z
                intro v1 w1 ho1 hb1 hg1
                have HB1 := Lib.hid (TC.out.b.trans hb1)
                have hz1 := Nat.le_trans TC.out.z hb1.size
                have HLc := Lib.hid (lit_c hg1)
                refine HK.out _ _ ⟨fun _ => s5_below H5.out HB1.out HN5, ?_⟩
                clear HK K'
                try simp only [Act.put, List.setIfInBounds_toArray, List.set_cons_zero, List.set_cons_succ]
                refine Any.all (rs := [13]) (by kernel_rfl) (by simp) ?_
                intro i hi
                simp only [List.mem_cons, List.not_mem_nil, or_false] at hi
                subst hi
                refine wpOp_step (o := { dst := some 121, op := Op.call { callee := Callee.builtin Builtin.append, args := #[Operand.tmp 113, Operand.tmp 120], argTypes := #[42, 42] }, type := 42, pos := "l04_machine.go:60", after := #[{ on := 5, ground := Ground.data }, { on := 12, ground := Ground.data }, { on := 5, ground := Ground.chain }], guard := none }) rfl (fun K' hK => ?_)
                have HK := Lib.hid hK
                clear hK
                refine step_appS rfl (.tmp 113) (.tmp 120) rfl W8.heap.size v1 ([] ++ L2.take q) ?_ ?_ (W8.heap.size + 1) (.slice (some ⟨W8.heap.size, 0, none⟩) 1 1) [(c, s, D, x)] ?_ ?_ (len_b L2 q _ h2) ?_ ?_
                · simp [Act.eval]
                · exact ho1
                · simp [Act.eval]
                · exact HLc.out
                · exact hz1
                intro v2 w2 ho2 hb2 hg2
                have HB2 := Lib.hid (HB1.out.trans hb2)
                have hz2 := Nat.le_trans hz1 hb2.size
                refine HK.out _ _ ⟨fun _ => s5_below H5.out HB2.out HN5, ?_⟩
                clear HK K'
                try simp only [Act.put, List.setIfInBounds_toArray, List.set_cons_zero, List.set_cons_succ]
                refine Any.all (rs := [15]) (by kernel_rfl) (by simp) ?_
                intro i hi
                simp only [List.mem_cons, List.not_mem_nil, or_false] at hi
                subst hi
                refine wpOp_step (o := { dst := some 123, op := Op.call { callee := Callee.builtin Builtin.append, args := #[Operand.tmp 121, Operand.tmp 122], argTypes := #[42, 42] }, type := 42, pos := "l04_machine.go:60", after := #[{ on := 13, ground := Ground.data }, { on := 14, ground := Ground.data }, { on := 13, ground := Ground.chain }], guard := none }) rfl (fun K' hK => ?_)
                have HK := Lib.hid hK
                clear hK
                refine step_appS rfl (.tmp 121) (.tmp 122) rfl W8.heap.size v2 (([] ++ L2.take q) ++ [(c, s, D, x)]) ?_ ?_ W8.heap.size sv2 (L2.drop q) ?_ ?_ (len_c L2 q _ _ h2) ?_ ?_
                · simp [Act.eval]
                · exact ho2
                · simp [Act.eval]
                · exact (HS2.out.below HB2.out (Nat.le_refl _))
                · exact hz2
                intro v3 w3 ho3 hb3 hg3
                have HB3 := Lib.hid (HB2.out.trans hb3)
                have HO3 := Lib.hid (show OwnS W8.heap.size w3 v3 LI by rw [HINS.out]; simpa using ho3)
                obtain ⟨zv, ev, rfl⟩ := HO3.out.shape
                have sx : w3.cell? ⟨X, 1, none⟩ = some (.slice z2 L2.length e2) := (HB3.out.cell (p := ⟨X, 1, none⟩) (show X < W8.heap.size from HZX.out)).trans HX1.out
                have sf : w3.frozen? ⟨X, 1, none⟩ = false := (HB3.out.frozen (p := ⟨X, 1, none⟩) (show X < W8.heap.size from HZX.out)).trans (HFX.out 1)
                refine HK.out _ _ ⟨fun _ => s5_below H5.out HB3.out HN5, ?_⟩
                clear HK K'
                try simp only [Act.put, List.setIfInBounds_toArray, List.set_cons_zero, List.set_cons_succ]
                refine Any.all (rs := [16]) (by kernel_rfl) (by simp) ?_
                intro i hi
                simp only [List.mem_cons, List.not_mem_nil, or_false] at hi
                subst hi
                refine wpOp_step (o := { dst := some 124, op := Op.fieldAddr 44 (Operand.tmp 7) 1, type := 0, pos := "l04_machine.go:60", after := #[{ on := 0, ground := Ground.phase }, { on := 1, ground := Ground.phase }, { on := 2, ground := Ground.phase }, { on := 3, ground := Ground.phase }, { on := 4, ground := Ground.phase }, { on := 5, ground := Ground.phase }, { on := 6, ground := Ground.phase }, { on := 7, ground := Ground.phase }, { on := 8, ground := Ground.phase }, { on := 9, ground := Ground.phase }, { on := 10, ground := Ground.phase }, { on := 11, ground := Ground.phase }, { on := 12, ground := Ground.phase }, { on := 13, ground := Ground.phase }, { on := 14, ground := Ground.phase }, { on := 15, ground := Ground.phase }], guard := none }) rfl (fun K' hK => ?_)
                have HK := Lib.hid hK
                clear hK
                go_simp
                refine HK.out _ _ ⟨fun _ => s5_below H5.out HB3.out HN5, ?_⟩
                clear HK K'
                try simp only [Act.put, List.setIfInBounds_toArray, List.set_cons_zero, List.set_cons_succ]
                refine Any.all (rs := [17]) (by kernel_rfl) (by simp) ?_
                intro i hi
                simp only [List.mem_cons, List.not_mem_nil, or_false] at hi
                subst hi
                refine wpOp_step (o := { dst := none, op := Op.store 42 (Operand.tmp 124) (Operand.tmp 123), type := 0, pos := "l04_machine.go:60", after := #[{ on := 16, ground := Ground.data }, { on := 15, ground := Ground.data }, { on := 15, ground := Ground.chain }, { on := 0, ground := Ground.phase }, { on := 1, ground := Ground.phase }, { on := 2, ground := Ground.phase }, { on := 3, ground := Ground.phase }, { on := 4, ground := Ground.phase }, { on := 5, ground := Ground.phase }, { on := 6, ground := Ground.phase }, { on := 7, ground := Ground.phase }, { on := 8, ground := Ground.phase }, { on := 9, ground := Ground.phase }, { on := 10, ground := Ground.phase }, { on := 11, ground := Ground.phase }, { on := 12, ground := Ground.phase }, { on := 13, ground := Ground.phase }, { on := 14, ground := Ground.phase }, { on := 15, ground := Ground.phase }], guard := none }) rfl (fun K' hK => ?_)
                have HK := Lib.hid hK
                clear hK
                go_simp
                refine HK.out _ _ ⟨fun h => absurd rfl h, ?_⟩
                clear HK K'
                try simp only [Act.put, List.setIfInBounds_toArray, List.set_cons_zero, List.set_cons_succ]
                refine Any.done (by kernel_rfl) ?_ _
                have HM9 := Lib.hid (midS_put HM8.out HB3.out HO3.out)
                have hRX : R ≠ X := by have := HRX.out; omega
                have e09 := (World.cell?_of_block (a := ⟨R, 0, none⟩) (Below.heap_setCell w3 ⟨X, 1, none⟩ (.slice zv LI.length ev) R hRX)).trans ((HB3.out.cell (p := ⟨R, 0, none⟩) HRW8.out).trans HE08.out)
                have e19 := (World.cell?_of_block (a := ⟨R, 1, none⟩) (Below.heap_setCell w3 ⟨X, 1, none⟩ (.slice zv LI.length ev) R hRX)).trans ((HB3.out.cell (p := ⟨R, 1, none⟩) HRW8.out).trans HE18.out)
                have HMM := Lib.hid (⟨HM9.out, e09, e19⟩ : MidS w.heap.size X w (w3.setCell ⟨X, 1, none⟩ (.slice zv LI.length ev)) (.slice (some ⟨gy, 0, none⟩) L1.length q1) (.slice y2 L2.length q2) (.slice (some ⟨gu, 0, none⟩) L1.length e1) (.slice zv LI.length ev) c s k n d v (setO L1 n k d v) LI ∧ (w3.setCell ⟨X, 1, none⟩ (.slice zv LI.length ev)).cell? ⟨R, 0, none⟩ = some (.bool D) ∧ (w3.setCell ⟨X, 1, none⟩ (.slice zv LI.length ev)).cell? ⟨R, 1, none⟩ = some (.int .i64 x))
                clear sx sf hRX e09 e19 HM9
                go_wp2_with fail
                go_meet
                exact ⟨zv, ev, HMM.out⟩
        · have HN := Lib.hid (show q < L2.length → ¬ (sg L2 q).1 < c from fun h => absurd h hlt)
          have k3 : (0 : Int) ≤ (q : Int) := by omega
          have t1 : decide ((q : Int) < (L2.length : Int)) = false := decide_eq_false (by omega)
          go_wp2_with fail
          go_quiet (fail)
          clear t1
          obtain ⟨LI, hLI⟩ : ∃ l, l = insR L2 (c, s, D, x) := ⟨_, rfl⟩
          have HINS := Lib.hid (show LI = L2.take q ++ [(c, s, D, x)] ++ L2.drop q by
            rw [hLI, insR_cut (c, s, D, x) L2 q hpw.out hq HE.out (fun h => by have := HN.out h; show ¬ _ < _; omega)]
            simp [hh.out])
          have HLI := Lib.hid hLI
          clear hLI
          obtain ⟨W8, hW8⟩ : ∃ W, W = (W7.drewN m7).drewN nq := ⟨_, rfl⟩
          have HM8 := Lib.hid ((HM7.out.drewN m7).drewN nq)
          have e08 : W8.cell? ⟨R, 0, none⟩ = some (.bool D) := by rw [hW8]; exact e0
          have e18 : W8.cell? ⟨R, 1, none⟩ = some (.int .i64 x) := by rw [hW8]; exact e1'
          have HRW8 := Lib.hid (show R < W8.heap.size by rw [hW8]; exact HRW7.out)
          rw [← hW8] at HM8 ⊢
          clear hW8 e0 e1' HRW7 HM7 p0 p1 p2 p3 p4 p5 m0 m1 a0 a1 r0 r1 x0 x1 f2 f3 fx hX sz
          obtain ⟨hX, sz, m0, m1, p0, p1, p2, p3, p4, p5, a0, a1, r0, r1, x0, x1, f2, f3, fx, -, -, -, -⟩ := HM8.out
          have hle : L2.length ≤ e2 := by
            obtain ⟨_, _, h', hle', _⟩ := HM8.out.o2.form
            cases h'
            exact hle'
          obtain ⟨sv1, hsv1⟩ : ∃ sv, sv = sliced z2 0 q e2 4 := ⟨_, rfl⟩
          obtain ⟨sv2, hsv2⟩ : ∃ sv, sv = sliced z2 q L2.length e2 4 := ⟨_, rfl⟩
          have R1 : ∀ W, (Instr.slice 42 (.slice z2 L2.length e2) none (some (.int .i64 (q : Int))) none).run Tryz.prog W = .ok sv1 W := fun W => by rw [hsv1]; exact run_upto W z2 L2.length e2 q (by omega)
          have R2 : ∀ W, (Instr.slice 42 (.slice z2 L2.length e2) (some (.int .i64 (q : Int))) none none).run Tryz.prog W = .ok sv2 W := fun W => by rw [hsv2]; exact run_from W z2 L2.length e2 q hq
          have HS1 := Lib.hid (show SrcS W8.heap.size W8 sv1 (L2.take q) by rw [hsv1]; exact src_take (SrcS.own HM8.out.o2) hq hle)
          have HS2 := Lib.hid (show SrcS W8.heap.size W8 sv2 (L2.drop q) by rw [hsv2]; exact src_drop (SrcS.own HM8.out.o2) hq hle)
          clear hsv1 hsv2
          have nX1 : X ≠ W8.heap.size := by omega
          have nX2 : X ≠ W8.heap.size + 1 := by omega
          go_upto_region 19 with (fail)
          go_cut [] (fun wx => ∃ (zv : Option Addr) (ev : Nat), MidS w.heap.size X w wx (.slice (some ⟨gy, 0, none⟩) L1.length q1) (.slice y2 L2.length q2) (.slice (some ⟨gu, 0, none⟩) L1.length e1) (.slice zv LI.length ev) c s k n d v (setO L1 n k d v) LI ∧ wx.cell? ⟨R, 0, none⟩ = some (.bool D) ∧ wx.cell? ⟨R, 1, none⟩ = some (.int .i64 x))
          case rest =>
            obtain ⟨zv, ev, hM9, e09, e19⟩ := hcut
            have HM9 := Lib.hid hM9
            have hXR := HRX.out
            clear hM9
            obtain ⟨hX, sz, m0, m1, p0, p1, p2, p3, p4, p5, a0, a1, r0, r1, x0, x1, f2, f3, fx, -, -, -, -⟩ := HM9.out
            have nR2 : R ≠ w.heap.size + 1 + 1 := by omega
            have nR3 : R ≠ w.heap.size + 1 + 1 + 1 := by omega
            go_wp2_with fail
            go_region
            clear e09 e19 m0 m1 p0 p1 p2 p3 p4 p5 x0 x1 fx nR2 nR3 hXR
            go_wp2_with fail
            refine bodyPost_ret (v := .tuple #[.agg #[.slice (some ⟨gu, 0, none⟩) L1.length e1, .slice zv LI.length ev], .agg #[.bool D, .int .i64 x], .bool true]) (by simp [results, Tryz.results105, go_sem, a0, a1, r0, r1]) rfl ⟨_, _, by rw [HX.out, HD.out], (midS_end HM9.out _ _ _ _).1, by rw [HX.out, HD.out, ← HLI.out]; exact (midS_end HM9.out _ _ _ _).2.1, (midS_end HM9.out _ _ _ _).2.2.drew⟩
          case first =>
            clear R2
            have xa : (W8.alloc (.cells #[] 98)).cell? ⟨X, 1, none⟩ = some (.slice z2 L2.length e2) := (((Below.refl W8.heap.size W8).alloc (Nat.le_refl _) _).cell (p := ⟨X, 1, none⟩) sz).trans x1
            have xb : (W8.alloc (.cells #[.int .i64 c, .int .i64 s, .bool D, .int .i64 x] 98)).cell? ⟨X, 1, none⟩ = some (.slice z2 L2.length e2) := (((Below.refl W8.heap.size W8).alloc (Nat.le_refl _) _).cell (p := ⟨X, 1, none⟩) sz).trans x1
            have xc : ((W8.alloc (.cells #[] 98)).alloc (.cells #[.int .i64 c, .int .i64 s, .bool D, .int .i64 x] 98)).cell? ⟨X, 1, none⟩ = some (.slice z2 L2.length e2) := ((((Below.refl W8.heap.size W8).alloc (Nat.le_refl _) _).alloc (by simp) _).cell (p := ⟨X, 1, none⟩) sz).trans x1
            have xd : ((W8.alloc (.cells #[.int .i64 c, .int .i64 s, .bool D, .int .i64 x] 98)).alloc (.cells #[] 98)).cell? ⟨X, 1, none⟩ = some (.slice z2 L2.length e2) := ((((Below.refl W8.heap.size W8).alloc (Nat.le_refl _) _).alloc (by simp) _).cell (p := ⟨X, 1, none⟩) sz).trans x1
            have TA := Lib.hid (two_a W8)
            have TB := Lib.hid (two_b W8 c s D x)
            have TC := Lib.hid (two_c W8 c s D x)
            have QA := Lib.hid (HS1.out.below TA.out.b (Nat.le_refl _))
            have QB := Lib.hid (HS1.out.below TB.out.b (Nat.le_refl _))
            have QC := Lib.hid (HS1.out.below TC.out.b (Nat.le_refl _))
            have HN1 := Lib.hid (show (⟨w.heap.size + 1, 0, none⟩ : Addr).block < W8.heap.size ∧ (⟨w.heap.size + 1, 1, none⟩ : Addr).block < W8.heap.size ∧ (⟨R, 0, none⟩ : Addr).block < W8.heap.size ∧ (⟨R, 1, none⟩ : Addr).block < W8.heap.size from by have := HRW8.out; exact ⟨by show w.heap.size + 1 < _; omega, by show w.heap.size + 1 < _; omega, by show R < _; omega, by show R < _; omega⟩)
            have HN2 := Lib.hid (show (⟨w.heap.size + 1, 0, none⟩ : Addr).block ≠ X ∧ (⟨w.heap.size + 1, 1, none⟩ : Addr).block ≠ X ∧ (⟨R, 0, none⟩ : Addr).block ≠ X ∧ (⟨R, 1, none⟩ : Addr).block ≠ X from by have := HRX.out; exact ⟨by show w.heap.size + 1 ≠ X; omega, by show w.heap.size + 1 ≠ X; omega, by show R ≠ X; omega, by show R ≠ X; omega⟩)
            have HZX := Lib.hid (show X < W8.heap.size from sz)
            have HE08 := Lib.hid e08
            have HE18 := Lib.hid e18
            have hS0 := s19_drew ⟨p0, p1, e08, e18⟩
            have H5 := Lib.hid (show (fun w' => w'.cell? ⟨w.heap.size + 1, 0, none⟩ = some (.int .i64 c) ∧ w'.cell? ⟨w.heap.size + 1, 1, none⟩ = some (.int .i64 s) ∧ w'.cell? ⟨R, 0, none⟩ = some (.bool D) ∧ w'.cell? ⟨R, 1, none⟩ = some (.int .i64 x) ∧ w'.cell? ⟨X, 1, none⟩ = some (.slice z2 L2.length e2)) W8 from ⟨p0, p1, e08, e18, x1⟩)
            have hS1 : (fun w' => w'.cell? ⟨w.heap.size + 1, 0, none⟩ = some (.int .i64 c) ∧ w'.cell? ⟨w.heap.size + 1, 1, none⟩ = some (.int .i64 s) ∧ w'.cell? ⟨R, 0, none⟩ = some (.bool D) ∧ w'.cell? ⟨R, 1, none⟩ = some (.int .i64 x) ∧ w'.cell? ⟨X, 1, none⟩ = some (.slice z2 L2.length e2)) W8.drew := ⟨p0, p1, e08, e18, x1⟩
            have HN5 := Lib.hid (show (w.heap.size + 1 < W8.heap.size ∧ R < W8.heap.size ∧ X < W8.heap.size) from ⟨by omega, HRW8.out, sz⟩)
            have B12 := Lib.hid (show Below W8.heap.size W8 (W8.alloc (.cells #[.int .i64 c, .int .i64 s, .bool D, .int .i64 x] 98)).drew from ((Below.refl _ _).alloc (Nat.le_refl _) _).drew)
            have HX1 := Lib.hid x1
            have HFX := Lib.hid fx
            clear p0 p1 p2 p3 p4 p5 m0 m1 a0 a1 r0 r1 x0 f2 f3 fx e08 e18 hS0 xa xb xc xd x1
            refine Any.region (n := 17) (S := fun w' => w'.cell? ⟨w.heap.size + 1, 0, none⟩ = some (.int .i64 c) ∧ w'.cell? ⟨w.heap.size + 1, 1, none⟩ = some (.int .i64 s) ∧ w'.cell? ⟨R, 0, none⟩ = some (.bool D) ∧ w'.cell? ⟨R, 1, none⟩ = some (.int .i64 x) ∧ w'.cell? ⟨X, 1, none⟩ = some (.slice z2 L2.length e2)) (by kernel_rfl) ?_
            refine Any.take (i := 1) (oi := { dst := some 109, op := Op.fieldAddr 44 (Operand.tmp 7) 1, type := 0, pos := "l04_machine.go:60", after := #[], guard := none }) (v := ?_) rfl (by kernel_rfl) (by kernel_rfl) (by kernel_rfl) (by kernel_rfl) (fun _ _ _ h => h) (Or.inl ⟨by rfl, ?_⟩) hS1 ?_
            rotate_left
            · intro wq hSq
              obtain ⟨hq0, hq1, hq2, hq3, hq4⟩ := hSq
              go_simp
              try (with_reducible rfl)
            try simp only [Act.put, List.setIfInBounds_toArray, List.set_cons_zero, List.set_cons_succ]
            refine Any.take (i := 2) (oi := { dst := some 110, op := Op.load 42 (Operand.tmp 109), type := 42, pos := "l04_machine.go:60", after := #[{ on := 1, ground := Ground.data }], guard := none }) (v := ?_) rfl (by kernel_rfl) (by kernel_rfl) (by kernel_rfl) (by kernel_rfl) (fun _ _ _ h => h) (Or.inl ⟨by rfl, ?_⟩) hS1 ?_
            rotate_left
            · intro wq hSq
              obtain ⟨hq0, hq1, hq2, hq3, hq4⟩ := hSq
              go_simp
              try (with_reducible rfl)
            try simp only [Act.put, List.setIfInBounds_toArray, List.set_cons_zero, List.set_cons_succ]
            refine Any.take (i := 3) (oi := { dst := some 111, op := Op.move (Operand.tmp 12), type := 3, pos := "l04_machine.go:60", after := #[], guard := none }) (v := ?_) rfl (by kernel_rfl) (by kernel_rfl) (by kernel_rfl) (by kernel_rfl) (fun _ _ _ h => h) (Or.inl ⟨by rfl, ?_⟩) hS1 ?_
            rotate_left
            · intro wq hSq
              obtain ⟨hq0, hq1, hq2, hq3, hq4⟩ := hSq
              go_simp
              try (with_reducible rfl)
            try simp only [Act.put, List.setIfInBounds_toArray, List.set_cons_zero, List.set_cons_succ]
            refine Any.take (i := 4) (oi := { dst := some 112, op := Op.slice 42 (Operand.tmp 110) none (some (Operand.tmp 111)) none, type := 42, pos := "l04_machine.go:60", after := #[{ on := 2, ground := Ground.data }, { on := 3, ground := Ground.data }], guard := none }) (v := ?_) rfl (by kernel_rfl) (by kernel_rfl) (by kernel_rfl) (by kernel_rfl) (fun _ _ _ h => h) (Or.inl ⟨by rfl, ?_⟩) hS1 ?_
            rotate_left
            · intro wq hSq
              obtain ⟨hq0, hq1, hq2, hq3, hq4⟩ := hSq
              go_simp
              try (with_reducible rfl)
            try simp only [Act.put, List.setIfInBounds_toArray, List.set_cons_zero, List.set_cons_succ]
            refine Any.take (i := 6) (oi := { dst := some 114, op := Op.fieldAddr 25 (Operand.tmp 3) 0, type := 0, pos := "l04_machine.go:60", after := #[], guard := none }) (v := ?_) rfl (by kernel_rfl) (by kernel_rfl) (by kernel_rfl) (by kernel_rfl) (fun _ _ _ h => h) (Or.inl ⟨by rfl, ?_⟩) hS1 ?_
            rotate_left
            · intro wq hSq
              obtain ⟨hq0, hq1, hq2, hq3, hq4⟩ := hSq
              go_simp
              try (with_reducible rfl)
            try simp only [Act.put, List.setIfInBounds_toArray, List.set_cons_zero, List.set_cons_succ]
            refine Any.take (i := 7) (oi := { dst := some 115, op := Op.load 3 (Operand.tmp 114), type := 3, pos := "l04_machine.go:60", after := #[{ on := 6, ground := Ground.data }], guard := none }) (v := ?_) rfl (by kernel_rfl) (by kernel_rfl) (by kernel_rfl) (by kernel_rfl) (fun _ _ _ h => h) (Or.inl ⟨by rfl, ?_⟩) hS1 ?_
            rotate_left
            · intro wq hSq
              obtain ⟨hq0, hq1, hq2, hq3, hq4⟩ := hSq
              go_simp
              try (with_reducible rfl)
            try simp only [Act.put, List.setIfInBounds_toArray, List.set_cons_zero, List.set_cons_succ]
            refine Any.take (i := 8) (oi := { dst := some 116, op := Op.fieldAddr 25 (Operand.tmp 3) 1, type := 0, pos := "l04_machine.go:60", after := #[], guard := none }) (v := ?_) rfl (by kernel_rfl) (by kernel_rfl) (by kernel_rfl) (by kernel_rfl) (fun _ _ _ h => h) (Or.inl ⟨by rfl, ?_⟩) hS1 ?_
            rotate_left
            · intro wq hSq
              obtain ⟨hq0, hq1, hq2, hq3, hq4⟩ := hSq
              go_simp
              try (with_reducible rfl)
            try simp only [Act.put, List.setIfInBounds_toArray, List.set_cons_zero, List.set_cons_succ]
            refine Any.take (i := 9) (oi := { dst := some 117, op := Op.load 3 (Operand.tmp 116), type := 3, pos := "l04_machine.go:60", after := #[{ on := 8, ground := Ground.data }], guard := none }) (v := ?_) rfl (by kernel_rfl) (by kernel_rfl) (by kernel_rfl) (by kernel_rfl) (fun _ _ _ h => h) (Or.inl ⟨by rfl, ?_⟩) hS1 ?_
            rotate_left
            · intro wq hSq
              obtain ⟨hq0, hq1, hq2, hq3, hq4⟩ := hSq
              go_simp
              try (with_reducible rfl)
            try simp only [Act.put, List.setIfInBounds_toArray, List.set_cons_zero, List.set_cons_succ]
            refine Any.take (i := 10) (oi := { dst := some 118, op := Op.load 96 (Operand.tmp 11), type := 96, pos := "l04_machine.go:60", after := #[], guard := none }) (v := ?_) rfl (by kernel_rfl) (by kernel_rfl) (by kernel_rfl) (by kernel_rfl) (fun _ _ _ h => h) (Or.inl ⟨by rfl, ?_⟩) hS1 ?_
            rotate_left
            · intro wq hSq
              obtain ⟨hq0, hq1, hq2, hq3, hq4⟩ := hSq
              go_simp
              try (with_reducible rfl)
            try simp only [Act.put, List.setIfInBounds_toArray, List.set_cons_zero, List.set_cons_succ]
            refine Any.take (i := 11) (oi := { dst := some 119, op := Op.build 98 #[(0, Operand.tmp 115), (1, Operand.tmp 117), (2, Operand.tmp 118)], type := 98, pos := "l04_machine.go:60", after := #[{ on := 7, ground := Ground.data }, { on := 9, ground := Ground.data }, { on := 10, ground := Ground.data }], guard := none }) (v := ?_) rfl (by kernel_rfl) (by kernel_rfl) (by kernel_rfl) (by kernel_rfl) (fun _ _ _ h => h) (Or.inl ⟨by rfl, ?_⟩) hS1 ?_
            rotate_left
            · intro wq hSq
              obtain ⟨hq0, hq1, hq2, hq3, hq4⟩ := hSq
              go_simp
              try (with_reducible rfl)
            try simp only [Act.put, List.setIfInBounds_toArray, List.set_cons_zero, List.set_cons_succ]
            refine Any.take (i := 14) (oi := { dst := some 122, op := Op.move (Operand.tmp 13), type := 42, pos := "l04_machine.go:60", after := #[], guard := none }) (v := ?_) rfl (by kernel_rfl) (by kernel_rfl) (by kernel_rfl) (by kernel_rfl) (fun _ _ _ h => h) (Or.inl ⟨by rfl, ?_⟩) hS1 ?_
            rotate_left
            · intro wq hSq
              obtain ⟨hq0, hq1, hq2, hq3, hq4⟩ := hSq
              go_simp
              try (with_reducible rfl)
            try simp only [Act.put, List.setIfInBounds_toArray, List.set_cons_zero, List.set_cons_succ]
            clear R1 hS1
            refine Any.all (rs := [0, 12]) (by kernel_rfl) (by simp) ?_
            intro i hi
            simp only [List.mem_cons, List.not_mem_nil, or_false] at hi
            rcases hi with rfl | rfl
            · skip
              refine wpOp_step (o := { dst := some 108, op := Op.buildSlice 42 0 #[], type := 42, pos := "l04_machine.go:60", after := #[], guard := none }) rfl (fun K' hK => ?_)
              have HK := Lib.hid hK
              clear hK
              go_simp
              refine HK.out _ _ ⟨fun _ => s5_below H5.out TA.out.b HN5, ?_⟩
              clear HK K'
              try simp only [Act.put, List.setIfInBounds_toArray, List.set_cons_zero, List.set_cons_succ]
              refine Any.all (rs := [5, 12]) (by kernel_rfl) (by simp) ?_
              intro i hi
              simp only [List.mem_cons, List.not_mem_nil, or_false] at hi
              rcases hi with rfl | rfl
              · skip
                refine wpOp_step (o := { dst := some 113, op := Op.call { callee := Callee.builtin Builtin.append, args := #[Operand.tmp 108, Operand.tmp 112], argTypes := #[42, 42] }, type := 42, pos := "l04_machine.go:60", after := #[{ on := 0, ground := Ground.data }, { on := 4, ground := Ground.data }], guard := none }) rfl (fun K' hK => ?_)
                have HK := Lib.hid hK
                clear hK
                refine step_appS rfl (.tmp 108) (.tmp 112) rfl W8.heap.size (.slice (some ⟨W8.heap.size, 0, none⟩) 0 0) [] ?_ ?_ W8.heap.size sv1 (L2.take q) ?_ ?_ (len_a L2 q h2) ?_ ?_
                · simp [Act.eval]
                · exact TA.out.o
                · simp [Act.eval]
                · exact QA.out
                · exact TA.out.z
                intro v1 w1 ho1 hb1 hg1
                have HB1 := Lib.hid (TA.out.b.trans hb1)
                have hz1 := Nat.le_trans TA.out.z hb1.size
                refine HK.out _ _ ⟨fun _ => s5_below H5.out HB1.out HN5, ?_⟩
                clear HK K'
                try simp only [Act.put, List.setIfInBounds_toArray, List.set_cons_zero, List.set_cons_succ]
                refine Any.all (rs := [12]) (by kernel_rfl) (by simp) ?_
                intro i hi
                simp only [List.mem_cons, List.not_mem_nil, or_false] at hi
                subst hi
                refine wpOp_step (o := { dst := some 120, op := Op.buildSlice 42 1 #[(0, Operand.tmp 119)], type := 42, pos := "l04_machine.go:60", after := #[{ on := 11, ground := Ground.data }], guard := none }) rfl (fun K' hK => ?_)
                have HK := Lib.hid hK
                clear hK
                go_simp
                refine HK.out _ _ ⟨fun _ => s5_below H5.out (HB1.out.trans (((Below.refl w1.heap.size w1).alloc (Nat.le_refl _) _).mono hz1)) HN5, ?_⟩
                clear HK K'
                try simp only [Act.put, List.setIfInBounds_toArray, List.set_cons_zero, List.set_cons_succ]
                refine Any.all (rs := [13]) (by kernel_rfl) (by simp) ?_
                intro i hi
                simp only [List.mem_cons, List.not_mem_nil, or_false] at hi
                subst hi
                refine wpOp_step (o := { dst := some 121, op := Op.call { callee := Callee.builtin Builtin.append, args := #[Operand.tmp 113, Operand.tmp 120], argTypes := #[42, 42] }, type := 42, pos := "l04_machine.go:60", after := #[{ on := 5, ground := Ground.data }, { on := 12, ground := Ground.data }, { on := 5, ground := Ground.chain }], guard := none }) rfl (fun K' hK => ?_)
                have HK := Lib.hid hK
                clear hK
                refine step_appS rfl (.tmp 113) (.tmp 120) rfl W8.heap.size v1 ([] ++ L2.take q) ?_ ?_ (w1.heap.size + 1) (.slice (some ⟨w1.heap.size, 0, none⟩) 1 1) [(c, s, D, x)] ?_ ?_ (len_b L2 q _ h2) ?_ ?_
                · simp [Act.eval]
                · exact (OwnS.later ho1 ((Below.refl _ _).alloc (Nat.le_refl _) _))
                · simp [Act.eval]
                · exact (litS w1 c s D x)
                · exact (Nat.le_trans hz1 (size_up w1 _))
                intro v2 w2 ho2 hb2 hg2
                have HB2 := Lib.hid (HB1.out.trans ((((Below.refl w1.heap.size w1).alloc (Nat.le_refl _) _).mono hz1).trans hb2))
                have hz2 := Nat.le_trans hz1 (Nat.le_trans (size_up w1 _) hb2.size)
                refine HK.out _ _ ⟨fun _ => s5_below H5.out HB2.out HN5, ?_⟩
                clear HK K'
                try simp only [Act.put, List.setIfInBounds_toArray, List.set_cons_zero, List.set_cons_succ]
                refine Any.all (rs := [15]) (by kernel_rfl) (by simp) ?_
                intro i hi
                simp only [List.mem_cons, List.not_mem_nil, or_false] at hi
                subst hi
                refine wpOp_step (o := { dst := some 123, op := Op.call { callee := Callee.builtin Builtin.append, args := #[Operand.tmp 121, Operand.tmp 122], argTypes := #[42, 42] }, type := 42, pos := "l04_machine.go:60", after := #[{ on := 13, ground := Ground.data }, { on := 14, ground := Ground.data }, { on := 13, ground := Ground.chain }], guard := none }) rfl (fun K' hK => ?_)
                have HK := Lib.hid hK
                clear hK
                refine step_appS rfl (.tmp 121) (.tmp 122) rfl W8.heap.size v2 (([] ++ L2.take q) ++ [(c, s, D, x)]) ?_ ?_ W8.heap.size sv2 (L2.drop q) ?_ ?_ (len_c L2 q _ _ h2) ?_ ?_
                · simp [Act.eval]
                · exact ho2
                · simp [Act.eval]
                · exact (HS2.out.below HB2.out (Nat.le_refl _))
                · exact hz2
                intro v3 w3 ho3 hb3 hg3
                have HB3 := Lib.hid (HB2.out.trans hb3)
                have HO3 := Lib.hid (show OwnS W8.heap.size w3 v3 LI by rw [HINS.out]; simpa using ho3)
                obtain ⟨zv, ev, rfl⟩ := HO3.out.shape
                have sx : w3.cell? ⟨X, 1, none⟩ = some (.slice z2 L2.length e2) := (HB3.out.cell (p := ⟨X, 1, none⟩) (show X < W8.heap.size from HZX.out)).trans HX1.out
                have sf : w3.frozen? ⟨X, 1, none⟩ = false := (HB3.out.frozen (p := ⟨X, 1, none⟩) (show X < W8.heap.size from HZX.out)).trans (HFX.out 1)
                refine HK.out _ _ ⟨fun _ => s5_below H5.out HB3.out HN5, ?_⟩
                clear HK K'
                try simp only [Act.put, List.setIfInBounds_toArray, List.set_cons_zero, List.set_cons_succ]
                refine Any.all (rs := [16]) (by kernel_rfl) (by simp) ?_
                intro i hi
                simp only [List.mem_cons, List.not_mem_nil, or_false] at hi
                subst hi
                refine wpOp_step (o := { dst := some 124, op := Op.fieldAddr 44 (Operand.tmp 7) 1, type := 0, pos := "l04_machine.go:60", after := #[{ on := 0, ground := Ground.phase }, { on := 1, ground := Ground.phase }, { on := 2, ground := Ground.phase }, { on := 3, ground := Ground.phase }, { on := 4, ground := Ground.phase }, { on := 5, ground := Ground.phase }, { on := 6, ground := Ground.phase }, { on := 7, ground := Ground.phase }, { on := 8, ground := Ground.phase }, { on := 9, ground := Ground.phase }, { on := 10, ground := Ground.phase }, { on := 11, ground := Ground.phase }, { on := 12, ground := Ground.phase }, { on := 13, ground := Ground.phase }, { on := 14, ground := Ground.phase }, { on := 15, ground := Ground.phase }], guard := none }) rfl (fun K' hK => ?_)
                have HK := Lib.hid hK
                clear hK
                go_simp
                refine HK.out _ _ ⟨fun _ => s5_below H5.out HB3.out HN5, ?_⟩
                clear HK K'
                try simp only [Act.put, List.setIfInBounds_toArray, List.set_cons_zero, List.set_cons_succ]
                refine Any.all (rs := [17]) (by kernel_rfl) (by simp) ?_
                intro i hi
                simp only [List.mem_cons, List.not_mem_nil, or_false] at hi
                subst hi
                refine wpOp_step (o := { dst := none, op := Op.store 42 (Operand.tmp 124) (Operand.tmp 123), type := 0, pos := "l04_machine.go:60", after := #[{ on := 16, ground := Ground.data }, { on := 15, ground := Ground.data }, { on := 15, ground := Ground.chain }, { on := 0, ground := Ground.phase }, { on := 1, ground := Ground.phase }, { on := 2, ground := Ground.phase }, { on := 3, ground := Ground.phase }, { on := 4, ground := Ground.phase }, { on := 5, ground := Ground.phase }, { on := 6, ground := Ground.phase }, { on := 7, ground := Ground.phase }, { on := 8, ground := Ground.phase }, { on := 9, ground := Ground.phase }, { on := 10, ground := Ground.phase }, { on := 11, ground := Ground.phase }, { on := 12, ground := Ground.phase }, { on := 13, ground := Ground.phase }, { on := 14, ground := Ground.phase }, { on := 15, ground := Ground.phase }], guard := none }) rfl (fun K' hK => ?_)
                have HK := Lib.hid hK
                clear hK
                go_simp
                refine HK.out _ _ ⟨fun h => absurd rfl h, ?_⟩
                clear HK K'
                try simp only [Act.put, List.setIfInBounds_toArray, List.set_cons_zero, List.set_cons_succ]
                refine Any.done (by kernel_rfl) ?_ _
                have HM9 := Lib.hid (midS_put HM8.out HB3.out HO3.out)
                have hRX : R ≠ X := by have := HRX.out; omega
                have e09 := (World.cell?_of_block (a := ⟨R, 0, none⟩) (Below.heap_setCell w3 ⟨X, 1, none⟩ (.slice zv LI.length ev) R hRX)).trans ((HB3.out.cell (p := ⟨R, 0, none⟩) HRW8.out).trans HE08.out)
                have e19 := (World.cell?_of_block (a := ⟨R, 1, none⟩) (Below.heap_setCell w3 ⟨X, 1, none⟩ (.slice zv LI.length ev) R hRX)).trans ((HB3.out.cell (p := ⟨R, 1, none⟩) HRW8.out).trans HE18.out)
                have HMM := Lib.hid (⟨HM9.out, e09, e19⟩ : MidS w.heap.size X w (w3.setCell ⟨X, 1, none⟩ (.slice zv LI.length ev)) (.slice (some ⟨gy, 0, none⟩) L1.length q1) (.slice y2 L2.length q2) (.slice (some ⟨gu, 0, none⟩) L1.length e1) (.slice zv LI.length ev) c s k n d v (setO L1 n k d v) LI ∧ (w3.setCell ⟨X, 1, none⟩ (.slice zv LI.length ev)).cell? ⟨R, 0, none⟩ = some (.bool D) ∧ (w3.setCell ⟨X, 1, none⟩ (.slice zv LI.length ev)).cell? ⟨R, 1, none⟩ = some (.int .i64 x))
                clear sx sf hRX e09 e19 HM9
                go_wp2_with fail
                go_meet
                exact ⟨zv, ev, HMM.out⟩
              · skip
                refine wpOp_step (o := { dst := some 120, op := Op.buildSlice 42 1 #[(0, Operand.tmp 119)], type := 42, pos := "l04_machine.go:60", after := #[{ on := 11, ground := Ground.data }], guard := none }) rfl (fun K' hK => ?_)
                have HK := Lib.hid hK
                clear hK
                go_simp
                refine HK.out _ _ ⟨fun _ => s5_below H5.out TB.out.b HN5, ?_⟩
                clear HK K'
                try simp only [Act.put, List.setIfInBounds_toArray, List.set_cons_zero, List.set_cons_succ]
                refine Any.all (rs := [5]) (by kernel_rfl) (by simp) ?_
                intro i hi
                simp only [List.mem_cons, List.not_mem_nil, or_false] at hi
                subst hi
                refine wpOp_step (o := { dst := some 113, op := Op.call { callee := Callee.builtin Builtin.append, args := #[Operand.tmp 108, Operand.tmp 112], argTypes := #[42, 42] }, type := 42, pos := "l04_machine.go:60", after := #[{ on := 0, ground := Ground.data }, { on := 4, ground := Ground.data }], guard := none }) rfl (fun K' hK => ?_)
                have HK := Lib.hid hK
                clear hK
                refine step_appS rfl (.tmp 108) (.tmp 112) rfl W8.heap.size (.slice (some ⟨W8.heap.size, 0, none⟩) 0 0) [] ?_ ?_ W8.heap.size sv1 (L2.take q) ?_ ?_ (len_a L2 q h2) ?_ ?_
                · simp [Act.eval]
                · exact TB.out.o
                · simp [Act.eval]
                · exact QB.out
                · exact TB.out.z
                intro v1 w1 ho1 hb1 hg1
                have HB1 := Lib.hid (TB.out.b.trans hb1)
                have hz1 := Nat.le_trans TB.out.z hb1.size
                have HLb := Lib.hid (lit_b hg1)
                refine HK.out _ _ ⟨fun _ => s5_below H5.out HB1.out HN5, ?_⟩
                clear HK K'
                try simp only [Act.put, List.setIfInBounds_toArray, List.set_cons_zero, List.set_cons_succ]
                refine Any.all (rs := [13]) (by kernel_rfl) (by simp) ?_
                intro i hi
                simp only [List.mem_cons, List.not_mem_nil, or_false] at hi
                subst hi
                refine wpOp_step (o := { dst := some 121, op := Op.call { callee := Callee.builtin Builtin.append, args := #[Operand.tmp 113, Operand.tmp 120], argTypes := #[42, 42] }, type := 42, pos := "l04_machine.go:60", after := #[{ on := 5, ground := Ground.data }, { on := 12, ground := Ground.data }, { on := 5, ground := Ground.chain }], guard := none }) rfl (fun K' hK => ?_)
                have HK := Lib.hid hK
                clear hK
                refine step_appS rfl (.tmp 113) (.tmp 120) rfl W8.heap.size v1 ([] ++ L2.take q) ?_ ?_ (W8.heap.size + 2) (.slice (some ⟨W8.heap.size + 1, 0, none⟩) 1 1) [(c, s, D, x)] ?_ ?_ (len_b L2 q _ h2) ?_ ?_
                · simp [Act.eval]
                · exact ho1
                · simp [Act.eval]
                · exact HLb.out
                · exact hz1
                intro v2 w2 ho2 hb2 hg2
                have HB2 := Lib.hid (HB1.out.trans hb2)
                have hz2 := Nat.le_trans hz1 hb2.size
                refine HK.out _ _ ⟨fun _ => s5_below H5.out HB2.out HN5, ?_⟩
                clear HK K'
                try simp only [Act.put, List.setIfInBounds_toArray, List.set_cons_zero, List.set_cons_succ]
                refine Any.all (rs := [15]) (by kernel_rfl) (by simp) ?_
                intro i hi
                simp only [List.mem_cons, List.not_mem_nil, or_false] at hi
                subst hi
                refine wpOp_step (o := { dst := some 123, op := Op.call { callee := Callee.builtin Builtin.append, args := #[Operand.tmp 121, Operand.tmp 122], argTypes := #[42, 42] }, type := 42, pos := "l04_machine.go:60", after := #[{ on := 13, ground := Ground.data }, { on := 14, ground := Ground.data }, { on := 13, ground := Ground.chain }], guard := none }) rfl (fun K' hK => ?_)
                have HK := Lib.hid hK
                clear hK
                refine step_appS rfl (.tmp 121) (.tmp 122) rfl W8.heap.size v2 (([] ++ L2.take q) ++ [(c, s, D, x)]) ?_ ?_ W8.heap.size sv2 (L2.drop q) ?_ ?_ (len_c L2 q _ _ h2) ?_ ?_
                · simp [Act.eval]
                · exact ho2
                · simp [Act.eval]
                · exact (HS2.out.below HB2.out (Nat.le_refl _))
                · exact hz2
                intro v3 w3 ho3 hb3 hg3
                have HB3 := Lib.hid (HB2.out.trans hb3)
                have HO3 := Lib.hid (show OwnS W8.heap.size w3 v3 LI by rw [HINS.out]; simpa using ho3)
                obtain ⟨zv, ev, rfl⟩ := HO3.out.shape
                have sx : w3.cell? ⟨X, 1, none⟩ = some (.slice z2 L2.length e2) := (HB3.out.cell (p := ⟨X, 1, none⟩) (show X < W8.heap.size from HZX.out)).trans HX1.out
                have sf : w3.frozen? ⟨X, 1, none⟩ = false := (HB3.out.frozen (p := ⟨X, 1, none⟩) (show X < W8.heap.size from HZX.out)).trans (HFX.out 1)
                refine HK.out _ _ ⟨fun _ => s5_below H5.out HB3.out HN5, ?_⟩
                clear HK K'
                try simp only [Act.put, List.setIfInBounds_toArray, List.set_cons_zero, List.set_cons_succ]
                refine Any.all (rs := [16]) (by kernel_rfl) (by simp) ?_
                intro i hi
                simp only [List.mem_cons, List.not_mem_nil, or_false] at hi
                subst hi
                refine wpOp_step (o := { dst := some 124, op := Op.fieldAddr 44 (Operand.tmp 7) 1, type := 0, pos := "l04_machine.go:60", after := #[{ on := 0, ground := Ground.phase }, { on := 1, ground := Ground.phase }, { on := 2, ground := Ground.phase }, { on := 3, ground := Ground.phase }, { on := 4, ground := Ground.phase }, { on := 5, ground := Ground.phase }, { on := 6, ground := Ground.phase }, { on := 7, ground := Ground.phase }, { on := 8, ground := Ground.phase }, { on := 9, ground := Ground.phase }, { on := 10, ground := Ground.phase }, { on := 11, ground := Ground.phase }, { on := 12, ground := Ground.phase }, { on := 13, ground := Ground.phase }, { on := 14, ground := Ground.phase }, { on := 15, ground := Ground.phase }], guard := none }) rfl (fun K' hK => ?_)
                have HK := Lib.hid hK
                clear hK
                go_simp
                refine HK.out _ _ ⟨fun _ => s5_below H5.out HB3.out HN5, ?_⟩
                clear HK K'
                try simp only [Act.put, List.setIfInBounds_toArray, List.set_cons_zero, List.set_cons_succ]
                refine Any.all (rs := [17]) (by kernel_rfl) (by simp) ?_
                intro i hi
                simp only [List.mem_cons, List.not_mem_nil, or_false] at hi
                subst hi
                refine wpOp_step (o := { dst := none, op := Op.store 42 (Operand.tmp 124) (Operand.tmp 123), type := 0, pos := "l04_machine.go:60", after := #[{ on := 16, ground := Ground.data }, { on := 15, ground := Ground.data }, { on := 15, ground := Ground.chain }, { on := 0, ground := Ground.phase }, { on := 1, ground := Ground.phase }, { on := 2, ground := Ground.phase }, { on := 3, ground := Ground.phase }, { on := 4, ground := Ground.phase }, { on := 5, ground := Ground.phase }, { on := 6, ground := Ground.phase }, { on := 7, ground := Ground.phase }, { on := 8, ground := Ground.phase }, { on := 9, ground := Ground.phase }, { on := 10, ground := Ground.phase }, { on := 11, ground := Ground.phase }, { on := 12, ground := Ground.phase }, { on := 13, ground := Ground.phase }, { on := 14, ground := Ground.phase }, { on := 15, ground := Ground.phase }], guard := none }) rfl (fun K' hK => ?_)
                have HK := Lib.hid hK
                clear hK
                go_simp
                refine HK.out _ _ ⟨fun h => absurd rfl h, ?_⟩
                clear HK K'
                try simp only [Act.put, List.setIfInBounds_toArray, List.set_cons_zero, List.set_cons_succ]
                refine Any.done (by kernel_rfl) ?_ _
                have HM9 := Lib.hid (midS_put HM8.out HB3.out HO3.out)
                have hRX : R ≠ X := by have := HRX.out; omega
                have e09 := (World.cell?_of_block (a := ⟨R, 0, none⟩) (Below.heap_setCell w3 ⟨X, 1, none⟩ (.slice zv LI.length ev) R hRX)).trans ((HB3.out.cell (p := ⟨R, 0, none⟩) HRW8.out).trans HE08.out)
                have e19 := (World.cell?_of_block (a := ⟨R, 1, none⟩) (Below.heap_setCell w3 ⟨X, 1, none⟩ (.slice zv LI.length ev) R hRX)).trans ((HB3.out.cell (p := ⟨R, 1, none⟩) HRW8.out).trans HE18.out)
                have HMM := Lib.hid (⟨HM9.out, e09, e19⟩ : MidS w.heap.size X w (w3.setCell ⟨X, 1, none⟩ (.slice zv LI.length ev)) (.slice (some ⟨gy, 0, none⟩) L1.length q1) (.slice y2 L2.length q2) (.slice (some ⟨gu, 0, none⟩) L1.length e1) (.slice zv LI.length ev) c s k n d v (setO L1 n k d v) LI ∧ (w3.setCell ⟨X, 1, none⟩ (.slice zv LI.length ev)).cell? ⟨R, 0, none⟩ = some (.bool D) ∧ (w3.setCell ⟨X, 1, none⟩ (.slice zv LI.length ev)).cell? ⟨R, 1, none⟩ = some (.int .i64 x))
                clear sx sf hRX e09 e19 HM9
                go_wp2_with fail
                go_meet
                exact ⟨zv, ev, HMM.out⟩
            · skip
              refine wpOp_step (o := { dst := some 120, op := Op.buildSlice 42 1 #[(0, Operand.tmp 119)], type := 42, pos := "l04_machine.go:60", after := #[{ on := 11, ground := Ground.data }], guard := none }) rfl (fun K' hK => ?_)
              have HK := Lib.hid hK
              clear hK
              go_simp
              refine HK.out _ _ ⟨fun _ => s5_below H5.out B12.out HN5, ?_⟩
              clear HK K'
              try simp only [Act.put, List.setIfInBounds_toArray, List.set_cons_zero, List.set_cons_succ]
              refine Any.all (rs := [0]) (by kernel_rfl) (by simp) ?_
              intro i hi
              simp only [List.mem_cons, List.not_mem_nil, or_false] at hi
              subst hi
              refine wpOp_step (o := { dst := some 108, op := Op.buildSlice 42 0 #[], type := 42, pos := "l04_machine.go:60", after := #[], guard := none }) rfl (fun K' hK => ?_)
              have HK := Lib.hid hK
              clear hK
              go_simp
              refine HK.out _ _ ⟨fun _ => s5_below H5.out TC.out.b HN5, ?_⟩
              clear HK K'
              try simp only [Act.put, List.setIfInBounds_toArray, List.set_cons_zero, List.set_cons_succ]
              refine Any.all (rs := [5]) (by kernel_rfl) (by simp) ?_
              intro i hi
              simp only [List.mem_cons, List.not_mem_nil, or_false] at hi
              subst hi
              refine wpOp_step (o := { dst := some 113, op := Op.call { callee := Callee.builtin Builtin.append, args := #[Operand.tmp 108, Operand.tmp 112], argTypes := #[42, 42] }, type := 42, pos := "l04_machine.go:60", after := #[{ on := 0, ground := Ground.data }, { on := 4, ground := Ground.data }], guard := none }) rfl (fun K' hK => ?_)
              have HK := Lib.hid hK
              clear hK
              refine step_appS rfl (.tmp 108) (.tmp 112) rfl W8.heap.size (.slice (some ⟨W8.heap.size + 1, 0, none⟩) 0 0) [] ?_ ?_ W8.heap.size sv1 (L2.take q) ?_ ?_ (len_a L2 q h2) ?_ ?_
              · simp [Act.eval]
              · exact TC.out.o
              · simp [Act.eval]
              · exact QC.out
              · exact TC.out.z
              intro v1 w1 ho1 hb1 hg1
              have HB1 := Lib.hid (TC.out.b.trans hb1)
              have hz1 := Nat.le_trans TC.out.z hb1.size
              have HLc := Lib.hid (lit_c hg1)
              refine HK.out _ _ ⟨fun _ => s5_below H5.out HB1.out HN5, ?_⟩
              clear HK K'
              try simp only [Act.put, List.setIfInBounds_toArray, List.set_cons_zero, List.set_cons_succ]
              refine Any.all (rs := [13]) (by kernel_rfl) (by simp) ?_
              intro i hi
              simp only [List.mem_cons, List.not_mem_nil, or_false] at hi
              subst hi
              refine wpOp_step (o := { dst := some 121, op := Op.call { callee := Callee.builtin Builtin.append, args := #[Operand.tmp 113, Operand.tmp 120], argTypes := #[42, 42] }, type := 42, pos := "l04_machine.go:60", after := #[{ on := 5, ground := Ground.data }, { on := 12, ground := Ground.data }, { on := 5, ground := Ground.chain }], guard := none }) rfl (fun K' hK => ?_)
              have HK := Lib.hid hK
              clear hK
              refine step_appS rfl (.tmp 113) (.tmp 120) rfl W8.heap.size v1 ([] ++ L2.take q) ?_ ?_ (W8.heap.size + 1) (.slice (some ⟨W8.heap.size, 0, none⟩) 1 1) [(c, s, D, x)] ?_ ?_ (len_b L2 q _ h2) ?_ ?_
              · simp [Act.eval]
              · exact ho1
              · simp [Act.eval]
              · exact HLc.out
              · exact hz1
              intro v2 w2 ho2 hb2 hg2
              have HB2 := Lib.hid (HB1.out.trans hb2)
              have hz2 := Nat.le_trans hz1 hb2.size
              refine HK.out _ _ ⟨fun _ => s5_below H5.out HB2.out HN5, ?_⟩
              clear HK K'
              try simp only [Act.put, List.setIfInBounds_toArray, List.set_cons_zero, List.set_cons_succ]
              refine Any.all (rs := [15]) (by kernel_rfl) (by simp) ?_
              intro i hi
              simp only [List.mem_cons, List.not_mem_nil, or_false] at hi
              subst hi
              refine wpOp_step (o := { dst := some 123, op := Op.call { callee := Callee.builtin Builtin.append, args := #[Operand.tmp 121, Operand.tmp 122], argTypes := #[42, 42] }, type := 42, pos := "l04_machine.go:60", after := #[{ on := 13, ground := Ground.data }, { on := 14, ground := Ground.data }, { on := 13, ground := Ground.chain }], guard := none }) rfl (fun K' hK => ?_)
              have HK := Lib.hid hK
              clear hK
              refine step_appS rfl (.tmp 121) (.tmp 122) rfl W8.heap.size v2 (([] ++ L2.take q) ++ [(c, s, D, x)]) ?_ ?_ W8.heap.size sv2 (L2.drop q) ?_ ?_ (len_c L2 q _ _ h2) ?_ ?_
              · simp [Act.eval]
              · exact ho2
              · simp [Act.eval]
              · exact (HS2.out.below HB2.out (Nat.le_refl _))
              · exact hz2
              intro v3 w3 ho3 hb3 hg3
              have HB3 := Lib.hid (HB2.out.trans hb3)
              have HO3 := Lib.hid (show OwnS W8.heap.size w3 v3 LI by rw [HINS.out]; simpa using ho3)
              obtain ⟨zv, ev, rfl⟩ := HO3.out.shape
              have sx : w3.cell? ⟨X, 1, none⟩ = some (.slice z2 L2.length e2) := (HB3.out.cell (p := ⟨X, 1, none⟩) (show X < W8.heap.size from HZX.out)).trans HX1.out
              have sf : w3.frozen? ⟨X, 1, none⟩ = false := (HB3.out.frozen (p := ⟨X, 1, none⟩) (show X < W8.heap.size from HZX.out)).trans (HFX.out 1)
              refine HK.out _ _ ⟨fun _ => s5_below H5.out HB3.out HN5, ?_⟩
              clear HK K'
              try simp only [Act.put, List.setIfInBounds_toArray, List.set_cons_zero, List.set_cons_succ]
              refine Any.all (rs := [16]) (by kernel_rfl) (by simp) ?_
              intro i hi
              simp only [List.mem_cons, List.not_mem_nil, or_false] at hi
              subst hi
              refine wpOp_step (o := { dst := some 124, op := Op.fieldAddr 44 (Operand.tmp 7) 1, type := 0, pos := "l04_machine.go:60", after := #[{ on := 0, ground := Ground.phase }, { on := 1, ground := Ground.phase }, { on := 2, ground := Ground.phase }, { on := 3, ground := Ground.phase }, { on := 4, ground := Ground.phase }, { on := 5, ground := Ground.phase }, { on := 6, ground := Ground.phase }, { on := 7, ground := Ground.phase }, { on := 8, ground := Ground.phase }, { on := 9, ground := Ground.phase }, { on := 10, ground := Ground.phase }, { on := 11, ground := Ground.phase }, { on := 12, ground := Ground.phase }, { on := 13, ground := Ground.phase }, { on := 14, ground := Ground.phase }, { on := 15, ground := Ground.phase }], guard := none }) rfl (fun K' hK => ?_)
              have HK := Lib.hid hK
              clear hK
              go_simp
              refine HK.out _ _ ⟨fun _ => s5_below H5.out HB3.out HN5, ?_⟩
              clear HK K'
              try simp only [Act.put, List.setIfInBounds_toArray, List.set_cons_zero, List.set_cons_succ]
              refine Any.all (rs := [17]) (by kernel_rfl) (by simp) ?_
              intro i hi
              simp only [List.mem_cons, List.not_mem_nil, or_false] at hi
              subst hi
              refine wpOp_step (o := { dst := none, op := Op.store 42 (Operand.tmp 124) (Operand.tmp 123), type := 0, pos := "l04_machine.go:60", after := #[{ on := 16, ground := Ground.data }, { on := 15, ground := Ground.data }, { on := 15, ground := Ground.chain }, { on := 0, ground := Ground.phase }, { on := 1, ground := Ground.phase }, { on := 2, ground := Ground.phase }, { on := 3, ground := Ground.phase }, { on := 4, ground := Ground.phase }, { on := 5, ground := Ground.phase }, { on := 6, ground := Ground.phase }, { on := 7, ground := Ground.phase }, { on := 8, ground := Ground.phase }, { on := 9, ground := Ground.phase }, { on := 10, ground := Ground.phase }, { on := 11, ground := Ground.phase }, { on := 12, ground := Ground.phase }, { on := 13, ground := Ground.phase }, { on := 14, ground := Ground.phase }, { on := 15, ground := Ground.phase }], guard := none }) rfl (fun K' hK => ?_)
              have HK := Lib.hid hK
              clear hK
              go_simp
              refine HK.out _ _ ⟨fun h => absurd rfl h, ?_⟩
              clear HK K'
              try simp only [Act.put, List.setIfInBounds_toArray, List.set_cons_zero, List.set_cons_succ]
              refine Any.done (by kernel_rfl) ?_ _
              have HM9 := Lib.hid (midS_put HM8.out HB3.out HO3.out)
              have hRX : R ≠ X := by have := HRX.out; omega
              have e09 := (World.cell?_of_block (a := ⟨R, 0, none⟩) (Below.heap_setCell w3 ⟨X, 1, none⟩ (.slice zv LI.length ev) R hRX)).trans ((HB3.out.cell (p := ⟨R, 0, none⟩) HRW8.out).trans HE08.out)
              have e19 := (World.cell?_of_block (a := ⟨R, 1, none⟩) (Below.heap_setCell w3 ⟨X, 1, none⟩ (.slice zv LI.length ev) R hRX)).trans ((HB3.out.cell (p := ⟨R, 1, none⟩) HRW8.out).trans HE18.out)
              have HMM := Lib.hid (⟨HM9.out, e09, e19⟩ : MidS w.heap.size X w (w3.setCell ⟨X, 1, none⟩ (.slice zv LI.length ev)) (.slice (some ⟨gy, 0, none⟩) L1.length q1) (.slice y2 L2.length q2) (.slice (some ⟨gu, 0, none⟩) L1.length e1) (.slice zv LI.length ev) c s k n d v (setO L1 n k d v) LI ∧ (w3.setCell ⟨X, 1, none⟩ (.slice zv LI.length ev)).cell? ⟨R, 0, none⟩ = some (.bool D) ∧ (w3.setCell ⟨X, 1, none⟩ (.slice zv LI.length ev)).cell? ⟨R, 1, none⟩ = some (.int .i64 x))
              clear sx sf hRX e09 e19 HM9
              go_wp2_with fail
              go_meet
              exact ⟨zv, ev, HMM.out⟩
end Go.Proofs.YtgjebjoaemeeoaaGreatDoor.kit
