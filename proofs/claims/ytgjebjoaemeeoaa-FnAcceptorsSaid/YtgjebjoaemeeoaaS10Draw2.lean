/-
  The draws of chapter 10's laws: an acceptor and a ballot; an acceptor, a ballot and a configuration.
-/
import Derived.Test.YtgjebjoaemeeoaaS10Draw
namespace Go.Proofs.Ytgjebjoaemeeoaa.kit
open Go.ChangeShapes Go.WideShapes Go.ChangeAt Go.RowKit
set_option linter.unusedVariables false
set_option linter.unusedSimpArgs false

/-- a drawn acceptor and number, in memory of the call's own -/
def AccInt (w : World) (e : Ending) (w' : World) : Prop := ∃ (x y s t : Int) (u1 u2 : Value) (R1 R2 : List Int) (n : Int), e = .returned (.tuple #[.agg #[.int .i64 x, .int .i64 y, .int .i64 s, .int .i64 t, u1, u2], .int .i64 n]) ∧ R1.length ≤ 6 ∧ R2.length ≤ 6 ∧ OwnI w.heap.size w' u1 R1 ∧ OwnI w.heap.size w' u2 R2 ∧ Below w.heap.size w w'
def AccIntCfg (w : World) (e : Ending) (w' : World) : Prop := ∃ (x y s t : Int) (u1 u2 : Value) (R1 R2 : List Int) (n s2 t2 : Int) (v1 v2 : Value) (M1 M2 : List Int), e = .returned (.tuple #[.agg #[.int .i64 x, .int .i64 y, .int .i64 s, .int .i64 t, u1, u2], .int .i64 n, .agg #[.int .i64 s2, .int .i64 t2, v1, v2]]) ∧
  R1.length ≤ 6 ∧ R2.length ≤ 6 ∧ M1.length ≤ 6 ∧ M2.length ≤ 6 ∧ OwnI w.heap.size w' u1 R1 ∧ OwnI w.heap.size w' u2 R2 ∧ OwnI w.heap.size w' v1 M1 ∧ OwnI w.heap.size w' v2 M2 ∧ Below w.heap.size w w'
set_option maxRecDepth 100000 in
set_option maxHeartbeats 4000000 in
theorem drawPrepare (A : Option Addr) (len cap : Nat) (zs : List Int) (w : World) (hc : Code w A len cap zs) : Calls Try.prog 9 #[.slice A len cap] w (AccInt w) := by
  have hb0 : Below w.heap.size w (w.alloc (.cells #[.int .i64 0, .int .i64 0, .int .i64 0, .int .i64 0, .slice none 0 0, .slice none 0 0] 28)) := (Below.refl _ _).alloc (Nat.le_refl _) _
  have hR := BoxC.new w 28 #[.int .i64 0, .int .i64 0, .int .i64 0, .int .i64 0, .slice none 0 0, .slice none 0 0]
  have hc0 := hc.below hb0
  have C1 := Lib.hid (new_any A len cap zs _ hc0.row hc0.low)
  simp only [World.size_alloc] at C1
  go_enter Try.func9, Try.ntmps9
  go_wp2_with fail
  refine (C1.out).mono ?_
  rintro e w1 ⟨rfl, hcur, hb1⟩
  have hng : w.heap.size ≠ w.heap.size + 1 := by omega
  have hB1 := hb0.trans (hb1.mono (by omega))
  have hR1 := hR.later (by simpa using hb1)
  have C2 := Lib.hid (any10_any (w.heap.size + 1) w1 hcur)
  have hlt := hcur.lt
  clear C1 hc0 hc hb0 hb1 hR
  go_wp2_with fail
  refine (C2.out).mono ?_
  rintro e w2 ⟨x, y, s, t, u1, u2, R1, R2, rfl, hl1, hl2, ho1, ho2, hd2⟩
  obtain ⟨a1, c1, rfl⟩ := ho1.shape
  obtain ⟨a2, c2, rfl⟩ := ho2.shape
  have hB2 := drew_below hB1 (Nat.le_succ _) hd2
  have hR2 := hR1.drewn hd2 hng
  have j0 := pick_lits hd2.2 [1, 2, 3, 5, 7, 99, 100, 0] (by decide) (by decide) (by unfold fits; decide)
  simp only [List.map_cons, List.map_nil, List.length_cons, List.length_nil, Nat.reduceAdd] at j0
  have C3 := Lib.hid j0
  clear C2 j0
  go_wp2_with fail
  refine (C3.out).mono ?_
  rintro e w3 ⟨v, rfl, _, hd3⟩
  have HR := Lib.hid (hR2.drewn hd3 hng)
  have HB := Lib.hid (drew_below hB2 (Nat.le_succ _) hd3)
  have HO1 := Lib.hid ((ho1.drew hd3 hlt).mono (Nat.le_trans (Nat.le_succ _) (Nat.le_of_lt hlt)))
  have HO2 := Lib.hid ((ho2.drew hd3 hlt).mono (Nat.le_trans (Nat.le_succ _) (Nat.le_of_lt hlt)))
  clear C3 hd2 hd3 ho1 ho2 hB1 hB2 hR1 hR2 hcur
  have r0 := HR.out.c 0 rfl
  have r1 := HR.out.c 1 rfl
  have r2 := HR.out.c 2 rfl
  have r3 := HR.out.c 3 rfl
  have r4 := HR.out.c 4 rfl
  have r5 := HR.out.c 5 rfl
  have f0 := HR.out.f 0
  have f1 := HR.out.f 1
  have f2 := HR.out.f 2
  have f3 := HR.out.f 3
  have f4 := HR.out.f 4
  have f5 := HR.out.f 5
  go_wp2_with fail
  refine bodyPost_ret (v := .tuple #[.agg #[.int .i64 x, .int .i64 y, .int .i64 s, .int .i64 t, .slice a1 R1.length c1, .slice a2 R2.length c2], .int .i64 v]) (by simp [results, Try.results9, go_sem, r0, r1, r2, r3, r4, r5]) rfl ?_
  refine ⟨x, y, s, t, _, _, R1, R2, v, rfl, hl1, hl2, ?_, ?_, ?_⟩
  · exact put6 HO1.out HR.out (by decide) _ _ _ _ _ _
  · exact put6 HO2.out HR.out (by decide) _ _ _ _ _ _
  · exact below6 HB.out (Nat.le_refl _) _ _ _ _ _ _
set_option maxRecDepth 100000 in
set_option maxHeartbeats 8000000 in
theorem drawAccept (A : Option Addr) (len cap : Nat) (zs : List Int) (w : World) (hc : Code w A len cap zs) : Calls Try.prog 13 #[.slice A len cap] w (AccIntCfg w) := by
  obtain ⟨W0, hW0⟩ : ∃ W, W = (w.alloc (.cells #[.int .i64 0, .int .i64 0, .int .i64 0, .int .i64 0, .slice none 0 0, .slice none 0 0] 28)).alloc (.cells #[.int .i64 0, .int .i64 0, .slice none 0 0, .slice none 0 0] 26) := ⟨_, rfl⟩
  have hs0 : W0.heap.size = w.heap.size + 1 + 1 := by rw [hW0, World.size_alloc, World.size_alloc]
  have hb0 : Below w.heap.size w W0 := by rw [hW0]; exact ((Below.refl _ _).alloc (Nat.le_refl _) _).alloc (by simp) _
  have hR : BoxC W0 w.heap.size 28 #[.int .i64 0, .int .i64 0, .int .i64 0, .int .i64 0, .slice none 0 0, .slice none 0 0] := by rw [hW0]; exact (BoxC.new _ _ _).later ((Below.refl _ _).alloc (Nat.le_refl _) _)
  have hQ : BoxC W0 (w.heap.size + 1) 26 #[.int .i64 0, .int .i64 0, .slice none 0 0, .slice none 0 0] := by
    rw [hW0]
    have h := BoxC.new (w.alloc (.cells #[.int .i64 0, .int .i64 0, .int .i64 0, .int .i64 0, .slice none 0 0, .slice none 0 0] 28)) 26 #[.int .i64 0, .int .i64 0, .slice none 0 0, .slice none 0 0]
    rwa [World.size_alloc] at h
  have hc0 := hc.below hb0
  have c1 := new_any A len cap zs _ hc0.row hc0.low
  rw [hs0] at c1
  have C1 := Lib.hid c1
  have HW := Lib.hid hW0
  clear hW0 c1
  go_enter Try.func13, Try.ntmps13
  go_wp2_with fail
  rw [← HW.out]
  clear HW
  refine (C1.out).mono ?_
  rintro e w1 ⟨rfl, hcur, hb1⟩
  have hng : w.heap.size ≠ w.heap.size + 1 + 1 := by omega
  have hng1 : w.heap.size + 1 ≠ w.heap.size + 1 + 1 := by omega
  have hB1 := hb0.trans (hb1.mono (by omega))
  rw [← hs0] at hb1
  have hR1 := hR.later hb1
  have hQ1 := hQ.later hb1
  have C2 := Lib.hid (any10_any (w.heap.size + 1 + 1) w1 hcur)
  have hlt := hcur.lt
  clear C1 hc0 hc hb0 hb1 hR hQ hs0
  go_wp2_with fail
  refine (C2.out).mono ?_
  rintro e w2 ⟨x, y, s, t, u1, u2, R1, R2, rfl, hl1, hl2, ho1, ho2, hd2⟩
  obtain ⟨a1, c1, rfl⟩ := ho1.shape
  obtain ⟨a2, c2, rfl⟩ := ho2.shape
  have hbX := (Below.refl w2.heap.size w2).alloc (Nat.le_refl _) (.cells #[.int .i64 x, .int .i64 y, .int .i64 s, .int .i64 t, .slice a1 R1.length c1, .slice a2 R2.length c2] 28)
  obtain ⟨W3, hW3⟩ : ∃ q, q = w2.alloc (.cells #[.int .i64 x, .int .i64 y, .int .i64 s, .int .i64 t, .slice a1 R1.length c1, .slice a2 R2.length c2] 28) := ⟨_, rfl⟩
  obtain ⟨p, hp⟩ : ∃ q, q = w2.heap.size := ⟨_, rfl⟩
  have hX : BoxC W3 p 28 #[.int .i64 x, .int .i64 y, .int .i64 s, .int .i64 t, .slice a1 R1.length c1, .slice a2 R2.length c2] := by rw [hW3, hp]; exact BoxC.new _ _ _
  have hR3 : BoxC W3 w.heap.size 28 #[.int .i64 0, .int .i64 0, .int .i64 0, .int .i64 0, .slice none 0 0, .slice none 0 0] := by rw [hW3]; exact (hR1.drewn hd2 hng).later hbX
  have hQ3 : BoxC W3 (w.heap.size + 1) 26 #[.int .i64 0, .int .i64 0, .slice none 0 0, .slice none 0 0] := by rw [hW3]; exact (hQ1.drewn hd2 hng1).later hbX
  have hd3 : Drew (w.heap.size + 1 + 1) w1 W3 := by rw [hW3]; exact hd2.alloc _
  have ho1' : OwnI w1.heap.size W3 (.slice a1 R1.length c1) R1 := by rw [hW3]; exact ho1.later hbX
  have ho2' : OwnI w1.heap.size W3 (.slice a2 R2.length c2) R2 := by rw [hW3]; exact ho2.later hbX
  have hpl : w.heap.size + 1 + 1 < p := by have := hd2.1.size; omega
  have hpg : p ≠ w.heap.size + 1 + 1 := by omega
  have j0 := pick_lits hd3.2 [1, 2, 3, 5, 7, 99, 100, 0] (by decide) (by decide) (by unfold fits; decide)
  simp only [List.map_cons, List.map_nil, List.length_cons, List.length_nil, Nat.reduceAdd] at j0
  have C3 := Lib.hid j0
  have HW3 := Lib.hid hW3
  have HP := Lib.hid hp
  clear C2 j0 hbX hW3 hp ho1 ho2 hd2 hR1 hQ1
  go_upto_region 3 with (fail)
  rw [← HW3.out, ← HP.out]
  clear HW3 HP
  go_wp2_with fail
  refine (C3.out).mono ?_
  rintro e w4 ⟨n, rfl, _, hdq⟩
  have HX := Lib.hid (hX.drewn hdq hpg)
  have HR := Lib.hid (hR3.drewn hdq hng)
  have HQ := Lib.hid (hQ3.drewn hdq hng1)
  have HD := Lib.hid (hd3.trans hdq)
  have HO1 := Lib.hid (ho1'.drew hdq hlt)
  have HO2 := Lib.hid (ho2'.drew hdq hlt)
  have HB1 := Lib.hid hB1
  have hcD := (hd3.trans hdq).2
  clear hX hR3 hQ3 hd3 hdq ho1' ho2' C3 hcur hB1
  have hb4 : Below w4.heap.size w4 w4.drew := (Below.refl _ _).drew
  have hcE : Cur (w.heap.size + 1 + 1) w4.drew := Cur.below hcD hb4 hcD.lt
  have HDD := Lib.hid (show Drew (w.heap.size + 1 + 1) w4 w4.drew from ⟨grown_drewN (grown_refl w4 (some (w.heap.size + 1 + 1))) 1, hcE⟩)
  have JA := Lib.hid (any8_any (w.heap.size + 1 + 1) w4.drew hcE)
  have x0 := HX.out.c 0 rfl
  have x1 := HX.out.c 1 rfl
  have x2 := HX.out.c 2 rfl
  have x3 := HX.out.c 3 rfl
  have x4 := HX.out.c 4 rfl
  have x5 := HX.out.c 5 rfl
  clear hb4 hcE hcD
  go_wp2_with fail
  go_region_with (first
    | (go_at_call 36; (with_reducible refine JA.out.mono ?_); rintro e w5 ⟨s2, t2, v1, v2, M1, M2, rfl, hm1, hm2, ho3, ho4, hd5⟩
       obtain ⟨a3, c3, rfl⟩ := ho3.shape
       obtain ⟨a4, c4, rfl⟩ := ho4.shape
       have hdd := HDD.out.trans hd5
       have HX5 := Lib.hid (HX.out.drewn hdd hpg)
       have HR5 := Lib.hid (HR.out.drewn hdd hng)
       have HQ5 := Lib.hid (HQ.out.drewn hdd hng1)
       have y0 := HX5.out.c 0 rfl
       have y1 := HX5.out.c 1 rfl
       have y2 := HX5.out.c 2 rfl
       have y3 := HX5.out.c 3 rfl
       have y4 := HX5.out.c 4 rfl
       have y5 := HX5.out.c 5 rfl
       have r0 := HR5.out.c 0 rfl
       have r1 := HR5.out.c 1 rfl
       have r2 := HR5.out.c 2 rfl
       have r3 := HR5.out.c 3 rfl
       have r4 := HR5.out.c 4 rfl
       have r5 := HR5.out.c 5 rfl
       have f0 := HR5.out.f 0
       have f1 := HR5.out.f 1
       have f2 := HR5.out.f 2
       have f3 := HR5.out.f 3
       have f4 := HR5.out.f 4
       have f5 := HR5.out.f 5
       have q0 := HQ5.out.c 0 rfl
       have q1 := HQ5.out.c 1 rfl
       have q2 := HQ5.out.c 2 rfl
       have q3 := HQ5.out.c 3 rfl
       have k0 := HQ5.out.f 0
       have k1 := HQ5.out.f 1
       have k2 := HQ5.out.f 2
       have k3 := HQ5.out.f 3))
  all_goals
    have hn1 : w.heap.size + 1 ≠ w.heap.size := by omega
    have HQ6 := Lib.hid ((((((HQ5.out.keep hn1 0 (.int .i64 x)).keep hn1 1 (.int .i64 y)).keep hn1 2 (.int .i64 s)).keep hn1 3 (.int .i64 t)).keep hn1 4 (.slice a1 R1.length c1)).keep hn1 5 (.slice a2 R2.length c2))
    have HE := Lib.hid (HD.out.trans hdd)
    have HS1 := Lib.hid (put4 (put6 ((HO1.out.drew hdd hlt).mono (Nat.le_trans (Nat.le_succ _) (Nat.le_trans (Nat.le_succ _) (Nat.le_of_lt hlt)))) HR5.out (by decide) (.int .i64 x) (.int .i64 y) (.int .i64 s) (.int .i64 t) (.slice a1 R1.length c1) (.slice a2 R2.length c2)) HQ6.out (by decide) (.int .i64 s2) (.int .i64 t2) (.slice a3 M1.length c3) (.slice a4 M2.length c4))
    have HS2 := Lib.hid (put4 (put6 ((HO2.out.drew hdd hlt).mono (Nat.le_trans (Nat.le_succ _) (Nat.le_trans (Nat.le_succ _) (Nat.le_of_lt hlt)))) HR5.out (by decide) (.int .i64 x) (.int .i64 y) (.int .i64 s) (.int .i64 t) (.slice a1 R1.length c1) (.slice a2 R2.length c2)) HQ6.out (by decide) (.int .i64 s2) (.int .i64 t2) (.slice a3 M1.length c3) (.slice a4 M2.length c4))
    have hz4 : w.heap.size ≤ w4.drew.heap.size := by have h1 := HD.out.1.size; have h2 : w4.drew.heap.size = w4.heap.size := rfl; omega
    have HS3 := Lib.hid (put4 (put6 (ho3.mono hz4) HR5.out (by decide) (.int .i64 x) (.int .i64 y) (.int .i64 s) (.int .i64 t) (.slice a1 R1.length c1) (.slice a2 R2.length c2)) HQ6.out (by decide) (.int .i64 s2) (.int .i64 t2) (.slice a3 M1.length c3) (.slice a4 M2.length c4))
    have HS4 := Lib.hid (put4 (put6 (ho4.mono hz4) HR5.out (by decide) (.int .i64 x) (.int .i64 y) (.int .i64 s) (.int .i64 t) (.slice a1 R1.length c1) (.slice a2 R2.length c2)) HQ6.out (by decide) (.int .i64 s2) (.int .i64 t2) (.slice a3 M1.length c3) (.slice a4 M2.length c4))
    have HB5 := Lib.hid (drew_below HB1.out (by omega) HE.out)
    clear x0 x1 x2 x3 x4 x5 y0 y1 y2 y3 y4 y5 ho3 ho4 hd5 hdd hz4 HO1 HO2 HDD JA
    go_wp2_with fail
    refine bodyPost_ret (v := .tuple #[.agg #[.int .i64 x, .int .i64 y, .int .i64 s, .int .i64 t, .slice a1 R1.length c1, .slice a2 R2.length c2], .int .i64 n, .agg #[.int .i64 s2, .int .i64 t2, .slice a3 M1.length c3, .slice a4 M2.length c4]]) (by simp [results, Try.results13, go_sem, r0, r1, r2, r3, r4, r5, q0, q1, q2, q3]) rfl ?_
    refine ⟨x, y, s, t, _, _, R1, R2, n, s2, t2, _, _, M1, M2, rfl, hl1, hl2, hm1, hm2, HS1.out, HS2.out, HS3.out, HS4.out, ?_⟩
    have h6 := below6 HB5.out (Nat.le_refl _) (.int .i64 x) (.int .i64 y) (.int .i64 s) (.int .i64 t) (.slice a1 R1.length c1) (.slice a2 R2.length c2)
    exact (((h6.setCell (p := ⟨w.heap.size + 1, 0, none⟩) (Nat.le_succ _) _).setCell (p := ⟨w.heap.size + 1, 1, none⟩) (Nat.le_succ _) _).setCell (p := ⟨w.heap.size + 1, 2, none⟩) (Nat.le_succ _) _).setCell (p := ⟨w.heap.size + 1, 3, none⟩) (Nat.le_succ _) _
end Go.Proofs.Ytgjebjoaemeeoaa.kit
