/-
  Chapter 4: impl's ApplyOp, an operation that is performed.
-/
import Derived.Test.YtpdpejlcilnafaaGreatDoorS4AppI
namespace Go.Proofs.YtpdpejlcilnafaaGreatDoor.kit
open Go.ChangeShapes Go.WideShapes Go.ChangeAt Go.RowKit Go.Maps
set_option linter.unusedVariables false

/-- .. behind a change of the objects' row -/
theorem Mid.grown {B g cap : Nat} {w W W' : World} {u2 : Value} {c s k o d v : Int} {L1 L1' : List Int} {L2 : List Sess} (h : Mid B w W (.slice (some ⟨g, 0, none⟩) L1.length cap) u2 c s k o d v L1 L2) (hg : W.grownBy W' (some g))
    (ho : OwnI (B + 4) W' (.slice (some ⟨g, 0, none⟩) L1.length cap) L1') : Mid B w W' (.slice (some ⟨g, 0, none⟩) L1.length cap) u2 c s k o d v L1' L2 := by
  have hs := h.sz
  have hgb := (h.o1.block g rfl).1
  have hb : ∀ b, b < B + 4 → W'.heap[b]? = W.heap[b]? := fun b hq => hg.block b (by omega) (fun e => by cases e; omega)
  have hc : ∀ b q, b < B + 4 → W'.cell? ⟨b, q, none⟩ = W.cell? ⟨b, q, none⟩ := fun b q hq => World.cell?_of_block (a := ⟨b, q, none⟩) (hb b hq)
  have hf : ∀ b q, b < B + 4 → W'.frozen? ⟨b, q, none⟩ = W.frozen? ⟨b, q, none⟩ := fun b q hq => World.frozen?_of_block (a := ⟨b, q, none⟩) (hb b hq)
  exact { sz := Nat.le_trans h.sz hg.size, m0 := (hc _ _ (by omega)).trans h.m0, m1 := (hc _ _ (by omega)).trans h.m1, p0 := (hc _ _ (by omega)).trans h.p0, p1 := (hc _ _ (by omega)).trans h.p1, p2 := (hc _ _ (by omega)).trans h.p2,
          p3 := (hc _ _ (by omega)).trans h.p3, p4 := (hc _ _ (by omega)).trans h.p4, p5 := (hc _ _ (by omega)).trans h.p5, a0 := (hc _ _ (by omega)).trans h.a0, a1 := (hc _ _ (by omega)).trans h.a1, r0 := (hc _ _ (by omega)).trans h.r0, r1 := (hc _ _ (by omega)).trans h.r1,
          f0 := fun q => (hf _ _ (by omega)).trans (h.f0 q), f2 := fun q => (hf _ _ (by omega)).trans (h.f2 q), f3 := fun q => (hf _ _ (by omega)).trans (h.f3 q), o1 := ho, o2 := h.o2.marked (v := .slice (some ⟨g, 0, none⟩) L1.length cap) hg (own_apart h.o1 h.o2), bl := h.bl.grown hg (by omega) (fun j hj => by cases hj; omega) }
/-- .. behind a change of the table -/
theorem Mid.past {B T : Nat} {w W W' : World} {u1 u2 : Value} {c s k o d v : Int} {L1 : List Int} {L2 : List Sess} (h : Mid B w W u1 u2 c s k o d v L1 L2) (hg : W.grownBy W' (some T)) (hT : B + 4 ≤ T) (n1 : ∀ g, u1.ownBlock = some g → g ≠ T) (n2 : ∀ g, u2.ownBlock = some g → g ≠ T) : Mid B w W' u1 u2 c s k o d v L1 L2 := by
  have hs := h.sz
  have hb : ∀ b, b < B + 4 → W'.heap[b]? = W.heap[b]? := fun b hq => hg.block b (by omega) (fun e => by cases e; omega)
  have hc : ∀ b q, b < B + 4 → W'.cell? ⟨b, q, none⟩ = W.cell? ⟨b, q, none⟩ := fun b q hq => World.cell?_of_block (a := ⟨b, q, none⟩) (hb b hq)
  have hf : ∀ b q, b < B + 4 → W'.frozen? ⟨b, q, none⟩ = W.frozen? ⟨b, q, none⟩ := fun b q hq => World.frozen?_of_block (a := ⟨b, q, none⟩) (hb b hq)
  have k1 : OwnI (B + 4) W' u1 L1 := h.o1.row.kept hg (by cases hu : u1.ownBlock with | none => exact .inl rfl | some g => exact .inr (fun e => by cases e; exact n1 _ hu rfl))
  have k2 : OwnS (B + 4) W' u2 L2 := h.o2.row.kept hg (by cases hu : u2.ownBlock with | none => exact .inl rfl | some g => exact .inr (fun e => by cases e; exact n2 _ hu rfl))
  exact { sz := Nat.le_trans h.sz hg.size, m0 := (hc _ _ (by omega)).trans h.m0, m1 := (hc _ _ (by omega)).trans h.m1, p0 := (hc _ _ (by omega)).trans h.p0, p1 := (hc _ _ (by omega)).trans h.p1, p2 := (hc _ _ (by omega)).trans h.p2,
          p3 := (hc _ _ (by omega)).trans h.p3, p4 := (hc _ _ (by omega)).trans h.p4, p5 := (hc _ _ (by omega)).trans h.p5, a0 := (hc _ _ (by omega)).trans h.a0, a1 := (hc _ _ (by omega)).trans h.a1, r0 := (hc _ _ (by omega)).trans h.r0, r1 := (hc _ _ (by omega)).trans h.r1,
          f0 := fun q => (hf _ _ (by omega)).trans (h.f0 q), f2 := fun q => (hf _ _ (by omega)).trans (h.f2 q), f3 := fun q => (hf _ _ (by omega)).trans (h.f3 q), o1 := k1, o2 := k2, bl := h.bl.grown hg (by omega) (fun j hj => by cases hj; omega) }
theorem ownsMap_lt {w : World} {B n : Nat} {D : DataW Unit} (h : w.ownsMap Tryz.prog 3 sessElem B n D) : B < w.heap.size := by
  obtain ⟨es, clock, h1, _⟩ := h
  exact (Array.getElem?_eq_some_iff.1 h1).1
/-- .. behind the store of the sessions -/
theorem Mid.set1 {B : Nat} {w W : World} {u1 u2 u2' : Value} {c s k o d v : Int} {L1 : List Int} {L2 L2' : List Sess} (h : Mid B w W u1 u2 c s k o d v L1 L2) (ho : OwnS (B + 4) W u2' L2') : Mid B w (W.setCell ⟨B, 1, none⟩ u2') u1 u2' c s k o d v L1 L2' := by
  have hsz : (W.setCell ⟨B, 1, none⟩ u2').heap.size = W.heap.size := by simp
  have hc : ∀ b q, b ≠ B → (W.setCell ⟨B, 1, none⟩ u2').cell? ⟨b, q, none⟩ = W.cell? ⟨b, q, none⟩ := fun b q hb => World.cell?_of_block (a := ⟨b, q, none⟩) (Below.heap_setCell _ _ _ _ (by simpa using hb))
  have hf : ∀ b q, (W.setCell ⟨B, 1, none⟩ u2').frozen? ⟨b, q, none⟩ = W.frozen? ⟨b, q, none⟩ := fun b q => by go_simp
  have x0 := h.m0
  have x1 := h.m1
  have xf := h.f0
  exact { sz := by rw [hsz]; exact h.sz, m0 := by go_simp, m1 := by go_simp, p0 := (hc _ _ (by omega)).trans h.p0, p1 := (hc _ _ (by omega)).trans h.p1, p2 := (hc _ _ (by omega)).trans h.p2,
          p3 := (hc _ _ (by omega)).trans h.p3, p4 := (hc _ _ (by omega)).trans h.p4, p5 := (hc _ _ (by omega)).trans h.p5, a0 := (hc _ _ (by omega)).trans h.a0, a1 := (hc _ _ (by omega)).trans h.a1, r0 := (hc _ _ (by omega)).trans h.r0, r1 := (hc _ _ (by omega)).trans h.r1,
          f0 := fun q => (hf _ _).trans (h.f0 q), f2 := fun q => (hf _ _).trans (h.f2 q), f3 := fun q => (hf _ _).trans (h.f3 q), o1 := h.o1.setBelow (a := ⟨B, 1, none⟩) (by show B < B + 4; omega) _, o2 := ho.setBelow (a := ⟨B, 1, none⟩) (by show B < B + 4; omega) _, bl := h.bl.setCell (p := ⟨B, 1, none⟩) (Nat.le_refl _) _ }
/-- the changed table's keys -/
theorem keys_ok {L : List Sess} (hnd : (L.map (·.1)).Nodup) (x : Sess) (k : Int) (zd : DataW Unit) (y : Sess) (hh : has ((tab L).put (.int .i64 x.1) (sessD x)) (.int .i64 k) = true) (ha : ((tab L).put (.int .i64 x.1) (sessD x)).atKey (.int .i64 k) zd = sessD y) : y.1 = k := by
  by_cases e : k = x.1
  · subst e
    rw [atKey_put_same (tab_isMap _) (key_int _)] at ha
    rw [← sessD_inj ha]
  · rw [has_put_other (key_ne e), has_tab] at hh
    rw [atKey_put_other (key_ne e), atKey_tab hnd hh] at ha
    rw [← sessD_inj ha]
    exact (has_sessOf hh).2
set_option maxRecDepth 100000 in
set_option maxHeartbeats 8000000 in
theorem appI_later (b1 b2 : Nat) (v1 v2 : Value) (L1 : List Int) (L2 : List Sess) (c s k d v x : Int) (dn : Bool) (o : Nat) (w : World) (h1 : L1.length ≤ 4194304) (h2 : L2.length ≤ 4194304) (h2' : L2.length ≤ 999) (o1 : OwnI b1 w v1 L1) (o2 : OwnS b2 w v2 L2) (hm : Hid (decide (MOk L1 L2) = true)) (hv : Hid (okOp c s k o d v = true))
    (hw : Hid (wfC L2)) (hc : Hid ((Lit.int .i64 c).wf = true)) (hpw : Hid (L2.Pairwise ltS)) (hnd : Hid ((L2.map (·.1)).Nodup)) (hoL : Hid (o < L1.length)) (hk : Hid (k = 1 ∨ k = 2)) (hx : Hid (L1.getD o 0 = x)) (hdn : Hid (doneO k d x = dn)) (l1 l2 : Int) (l3 : Bool) (l4 : Int) (hh : Hid (hasSess L2 c = true)) (hs : Hid (sessOf L2 c = (l1, l2, l3, l4))) (hgt : decide (l2 > s) = false) (heq : (l2 == s) = false) :
    Calls Tryz.prog 70 #[.agg #[v1, v2], opV c s k o d v] w fun e w' => ∃ u1 u2, e = .returned (.tuple #[.agg #[u1, u2], .agg #[.bool dn, .int .i64 x], .bool true]) ∧ OwnI w.heap.size w' u1 (setO L1 o k d v) ∧ OwnS w.heap.size w' u2 (insR L2 (c, s, dn, x)) ∧ Below w.heap.size w w' := by
  obtain ⟨y1, q1, rfl⟩ := o1.shape
  obtain ⟨y2, q2, rfl⟩ := o2.shape
  have HO1 := Lib.hid o1
  have HO2 := Lib.hid o2
  clear o1 o2
  go_enter Tryz.func70, Tryz.ntmps70
  unfold opV
  go_wp2_with fail
  obtain ⟨W0, hW0⟩ : ∃ W, W = (((w.alloc (.cells #[.slice y1 L1.length q1, .slice y2 L2.length q2] 30)).alloc (.cells #[.int .i64 c, .int .i64 s, .int .i64 k, .int .i64 o, .int .i64 d, .int .i64 v] 102)).alloc (.cells #[.slice none 0 0, .slice none 0 0] 30)).alloc (.cells #[.bool false, .int .i64 0] 113) := ⟨_, rfl⟩
  rw [← hW0]
  have hs0 : W0.heap.size = w.heap.size + 1 + 1 + 1 + 1 := by rw [hW0]; simp
  have hb0 : Below w.heap.size w W0 := by rw [hW0]; exact ((((Below.refl _ _).alloc (Nat.le_refl _) _).alloc (by simp) _).alloc (by simp; omega) _).alloc (by simp; omega) _
  have hx : W0.cell? ⟨w.heap.size, 0, none⟩ = some (.slice y1 L1.length q1) ∧ W0.cell? ⟨w.heap.size, 1, none⟩ = some (.slice y2 L2.length q2) := by rw [hW0]; constructor <;> go_simp
  have hp : (W0.cell? ⟨w.heap.size + 1, 0, none⟩ = some (.int .i64 c) ∧ W0.cell? ⟨w.heap.size + 1, 1, none⟩ = some (.int .i64 s) ∧ W0.cell? ⟨w.heap.size + 1, 2, none⟩ = some (.int .i64 k)) ∧ W0.cell? ⟨w.heap.size + 1, 3, none⟩ = some (.int .i64 o) ∧ W0.cell? ⟨w.heap.size + 1, 4, none⟩ = some (.int .i64 d) ∧ W0.cell? ⟨w.heap.size + 1, 5, none⟩ = some (.int .i64 v) := by rw [hW0]; refine ⟨⟨?_, ?_, ?_⟩, ?_, ?_, ?_⟩ <;> go_simp
  have hr : W0.cell? ⟨w.heap.size + 1 + 1, 0, none⟩ = some (.slice none 0 0) ∧ W0.cell? ⟨w.heap.size + 1 + 1, 1, none⟩ = some (.slice none 0 0) ∧ W0.cell? ⟨w.heap.size + 1 + 1 + 1, 0, none⟩ = some (.bool false) ∧ W0.cell? ⟨w.heap.size + 1 + 1 + 1, 1, none⟩ = some (.int .i64 0) := by rw [hW0]; refine ⟨?_, ?_, ?_, ?_⟩ <;> go_simp
  have hf : (∀ q, W0.frozen? ⟨w.heap.size, q, none⟩ = false) ∧ (∀ q, W0.frozen? ⟨w.heap.size + 1 + 1, q, none⟩ = false) ∧ ∀ q, W0.frozen? ⟨w.heap.size + 1 + 1 + 1, q, none⟩ = false := by rw [hW0]; refine ⟨fun q => ?_, fun q => ?_, fun q => ?_⟩ <;> go_simp
  clear hW0
  refine (copyMachine b1 b2 _ _ L1 L2 W0 h1 h2 (HO1.out.later hb0) (HO2.out.later hb0)).mono ?_
  rintro e w1 ⟨u1, u2, rfl, ho1, ho2, hb1⟩
  obtain ⟨z1, e1, rfl⟩ := ho1.shape
  obtain ⟨z2, e2, rfl⟩ := ho2.shape
  have hM : Mid w.heap.size w ((w1.setCell ⟨w.heap.size, 0, none⟩ (.slice z1 L1.length e1)).setCell ⟨w.heap.size, 1, none⟩ (.slice z2 L2.length e2)) (.slice z1 L1.length e1) (.slice z2 L2.length e2) c s k o d v L1 L2 := mid_start hs0 hb0 hx hp hr hf hb1 ho1 ho2
  have hx0 := (hb1.cell (p := ⟨w.heap.size, 0, none⟩) (by show w.heap.size < W0.heap.size; omega)).trans hx.1
  have hx1 := (hb1.cell (p := ⟨w.heap.size, 1, none⟩) (by show w.heap.size < W0.heap.size; omega)).trans hx.2
  have hxf := fun q => (hb1.frozen (p := ⟨w.heap.size, q, none⟩) (by show w.heap.size < W0.heap.size; omega)).trans (hf.1 q)
  have HM := Lib.hid hM
  clear hs0 hb0 hx hp hr hf hb1 ho1 ho2 hM HO1 HO2
  go_wp2_with fail
  generalize ((w1.setCell ⟨w.heap.size, 0, none⟩ (.slice z1 L1.length e1)).setCell ⟨w.heap.size, 1, none⟩ (.slice z2 L2.length e2)) = W1 at HM ⊢
  clear hx0 hx1 hxf w1 W0
  refine (implIsValidMachine (w.heap.size + 4) (w.heap.size + 4) _ _ L1 L2 W1 h1 h2 HM.out.o1 HM.out.o2).mono ?_
  rw [hm.out]
  rintro e w2 ⟨rfl, hb2⟩
  have HM2 := Lib.hid (HM.out.later hb2)
  clear hb2 HM W1
  obtain ⟨sz, m0, m1, p0, p1, p2, p3, p4, p5, a0, a1, r0, r1, f0, f2, f3, -, -, -⟩ := HM2.out
  go_wp2_with fail
  have jv := implIsValidOp c s k o d v w2
  unfold opV at jv
  refine jv.mono ?_
  rw [hv.out]
  rintro e w3 ⟨rfl, hb3⟩
  have HM3 := Lib.hid (HM2.out.later hb3)
  clear hb3 HM2 jv sz m0 m1 p0 p1 p2 p3 p4 p5 a0 a1 r0 r1 f0 f2 f3
  obtain ⟨sz, m0, m1, p0, p1, p2, p3, p4, p5, a0, a1, r0, r1, f0, f2, f3, -, -, -⟩ := HM3.out
  clear w2
  go_wp2_with fail
  refine (tableOf (w.heap.size + 4) _ L2 w3 h2 HM3.out.o2 hw.out).mono ?_
  rintro e w4 ⟨T, rfl, hT, hTs, hb4⟩
  have HM4 := Lib.hid (HM3.out.later hb4)
  have HT := Lib.hid hT
  have HTS := Lib.hid (Nat.le_trans sz hTs)
  have HTG1 := Lib.hid (fun g hg => Nat.lt_of_lt_of_le (HM3.out.o1.block g hg).2 hTs)
  have HTG2 := Lib.hid (fun g hg => Nat.lt_of_lt_of_le (HM3.out.o2.block g hg).2 hTs)
  clear hb4 HM3 hT hTs sz m0 m1 p0 p1 p2 p3 p4 p5 a0 a1 r0 r1 f0 f2 f3
  obtain ⟨sz, m0, m1, p0, p1, p2, p3, p4, p5, a0, a1, r0, r1, f0, f2, f3, -, -, -⟩ := HM4.out
  clear w3
  have n0 : w.heap.size ≠ w4.heap.size := by omega
  have n1 : w.heap.size + 1 ≠ w4.heap.size := by omega
  have n2 : w.heap.size + 1 + 1 ≠ w4.heap.size := by omega
  have n3 : w.heap.size + 1 + 1 + 1 ≠ w4.heap.size := by omega
  obtain ⟨g, cap, he, -, -, hgB, hgW⟩ := HM4.out.o1.there (by have := hoL.out; omega)
  injection he with he1 _ he3
  subst he1
  subst he3
  have HGT := Lib.hid (HTG1.out g rfl)
  have JP := fun (W : World) (hM : Mid w.heap.size w W (.slice (some ⟨g, 0, none⟩) L1.length e1) (.slice z2 L2.length e2) c s k o d v L1 L2) => performOp (w.heap.size + 4) g e1 L1 c s k d v o W h1 hM.o1 hoL.out hk.out
  unfold opV at JP
  rw [hx.out, hdn.out] at JP
  have JP' := fun W hM => Lib.hid (JP W hM)
  clear JP
  go_wp2_with (first
    | (at_lookup; refine look_sess _ rfl _ _ rfl T L2.length L2 c rfl HT.out rfl hc.out hnd.out ?_ (fun _ _ _ _ hno => absurd (hno.symm.trans hh.out) (by simp)); intro y1 y2 y3 y4 _ hy; (have hy' := hs.out.symm.trans hy); simp only [Prod.mk.injEq] at hy'; obtain ⟨rfl, rfl, rfl, rfl⟩ := hy'; (have HM5 := Lib.hid (HM4.out.later (show Below w4.heap.size w4 (w4.alloc (.cells #[.int .i64 l1, .int .i64 l2, .bool l3, .int .i64 l4] 120)) from (Below.refl _ _).alloc (Nat.le_refl _) _))); clear sz m0 m1 p0 p1 p2 p3 p4 p5 a0 a1 r0 r1 f0 f2 f3; obtain ⟨sz, m0, m1, p0, p1, p2, p3, p4, p5, a0, a1, r0, r1, f0, f2, f3, -, -, -⟩ := HM5.out)
    | (go_at_call 103; (with_reducible refine (JP' _ HM5.out).out.mono ?_); rintro e w6 ⟨rfl, ho6, hg6⟩
       have HM6 := Lib.hid (HM5.out.grown hg6 ho6)
       have HT6 := Lib.hid ((HT.out.alloc (.cells #[.int .i64 l1, .int .i64 l2, .bool l3, .int .i64 l4] 120)).kept hg6 (by intro e; cases e; have := HGT.out; omega))
       have HM7 := Lib.hid (HM6.out.later (show Below w6.heap.size w6 (w6.alloc (.cells #[.bool dn, .int .i64 x] 113)) from (Below.refl _ _).alloc (Nat.le_refl _) _))
       have HT7 := Lib.hid (HT6.out.alloc (.cells #[.bool dn, .int .i64 x] 113))
       clear sz m0 m1 p0 p1 p2 p3 p4 p5 a0 a1 r0 r1 f0 f2 f3
       obtain ⟨sz, m0, m1, p0, p1, p2, p3, p4, p5, a0, a1, r0, r1, f0, f2, f3, -, -, -⟩ := HM7.out)
    | (at_mapUpdate; refine wpList_mapUpdate_own _ rfl _ _ _ 152 rfl 3 120 keyInt Tryz.underlying152 sessElem T L2.length _ rfl HT7.out (by unfold maxLen; omega) _ _ _ rfl rfl (keyOf_int_mk Tryz.underlying3 hc.out) (sessD (c, s, dn, x)) [] (sessElem_mk (c, s, dn, x)) ?_; intro w8 hown8 hg8
       have HM8 := Lib.hid (HM7.out.past hg8 (by have := HTS.out; omega) (fun q hq e => by have := HTG1.out q hq; omega) (fun q hq e => by have := HTG2.out q hq; omega))
       have HT8 := Lib.hid hown8)
    | (go_at_call 104; (with_reducible refine (sorted_walk sortsS T (L2.length + 1) _ w8 (by omega) (ownsMap_lt HT8.out) HT8.out (fun k zd y => keys_ok hnd.out (c, s, dn, x) k zd y)).mono ?_); rintro e w9 ⟨v9, ss, rfl, ho9, hnd9, hso9, hm9, hb9⟩
       obtain rfl : ss = insR L2 (c, s, dn, x) := sorted_ins hpw.out hnd9 hso9 hm9
       obtain ⟨z9, e9, rfl⟩ := ho9.shape
       have hT6 := ownsMap_lt HT6.out
       have hz8 := hg8.size
       simp only [World.size_alloc] at hz8
       have hb8 : w8.heap[w6.heap.size]? = (w6.alloc (.cells #[.bool dn, .int .i64 x] 113)).heap[w6.heap.size]? := hg8.block w6.heap.size (by simp) (by intro e; cases e; omega)
       have hb9' : w9.heap[w6.heap.size]? = (w6.alloc (.cells #[.bool dn, .int .i64 x] 113)).heap[w6.heap.size]? := (hb9.block w6.heap.size (by omega)).trans hb8
       have g0 : w9.cell? ⟨w6.heap.size, 0, none⟩ = some (.bool dn) := (World.cell?_of_block (a := ⟨w6.heap.size, 0, none⟩) hb9').trans (by rw [World.cell?_alloc_at _ _ _ _ rfl]; rfl)
       have g1 : w9.cell? ⟨w6.heap.size, 1, none⟩ = some (.int .i64 x) := (World.cell?_of_block (a := ⟨w6.heap.size, 1, none⟩) hb9').trans (by rw [World.cell?_alloc_at _ _ _ _ rfl]; rfl)
       have HM9 := Lib.hid (HM8.out.later hb9)
       have HM10 := Lib.hid (HM9.out.set1 (ho9.mono HM8.out.sz))
       have s6 := HM6.out.sz
       have k0 : w6.heap.size ≠ w.heap.size := by omega
       have k2 : w6.heap.size ≠ w.heap.size + 1 + 1 := by omega
       have k3 : w6.heap.size ≠ w.heap.size + 1 + 1 + 1 := by omega
       clear sz m0 m1 p0 p1 p2 p3 p4 p5 a0 a1 r0 r1 f0 f2 f3 hb8 hb9' hz8 hT6 s6 ho9 hnd9 hso9 hm9 hb9
       obtain ⟨sz, m0, m1, p0, p1, p2, p3, p4, p5, a0, a1, r0, r1, f0, f2, f3, -, -, -⟩ := HM9.out)
    | go_in)
  go_region
  go_wp2_with fail
  refine bodyPost_ret (v := .tuple #[.agg #[.slice (some ⟨g, 0, none⟩) L1.length e1, .slice z9 (insR L2 (c, s, dn, x)).length e9], .agg #[.bool dn, .int .i64 x], .bool true]) (by simp [results, Tryz.results70, go_sem, a0, a1, r0, r1]) rfl ⟨_, _, rfl, (mid_end HM10.out _ _ _ _).1, (mid_end HM10.out _ _ _ _).2.1, (mid_end HM10.out _ _ _ _).2.2.drew⟩
set_option maxRecDepth 100000 in
set_option maxHeartbeats 8000000 in
theorem appI_first (b1 b2 : Nat) (v1 v2 : Value) (L1 : List Int) (L2 : List Sess) (c s k d v x : Int) (dn : Bool) (o : Nat) (w : World) (h1 : L1.length ≤ 4194304) (h2 : L2.length ≤ 4194304) (h2' : L2.length ≤ 999) (o1 : OwnI b1 w v1 L1) (o2 : OwnS b2 w v2 L2) (hm : Hid (decide (MOk L1 L2) = true)) (hv : Hid (okOp c s k o d v = true))
    (hw : Hid (wfC L2)) (hc : Hid ((Lit.int .i64 c).wf = true)) (hpw : Hid (L2.Pairwise ltS)) (hnd : Hid ((L2.map (·.1)).Nodup)) (hoL : Hid (o < L1.length)) (hk : Hid (k = 1 ∨ k = 2)) (hx : Hid (L1.getD o 0 = x)) (hdn : Hid (doneO k d x = dn)) (hh : Hid (hasSess L2 c = false)) :
    Calls Tryz.prog 70 #[.agg #[v1, v2], opV c s k o d v] w fun e w' => ∃ u1 u2, e = .returned (.tuple #[.agg #[u1, u2], .agg #[.bool dn, .int .i64 x], .bool true]) ∧ OwnI w.heap.size w' u1 (setO L1 o k d v) ∧ OwnS w.heap.size w' u2 (insR L2 (c, s, dn, x)) ∧ Below w.heap.size w w' := by
  obtain ⟨y1, q1, rfl⟩ := o1.shape
  obtain ⟨y2, q2, rfl⟩ := o2.shape
  have HO1 := Lib.hid o1
  have HO2 := Lib.hid o2
  clear o1 o2
  go_enter Tryz.func70, Tryz.ntmps70
  unfold opV
  go_wp2_with fail
  obtain ⟨W0, hW0⟩ : ∃ W, W = (((w.alloc (.cells #[.slice y1 L1.length q1, .slice y2 L2.length q2] 30)).alloc (.cells #[.int .i64 c, .int .i64 s, .int .i64 k, .int .i64 o, .int .i64 d, .int .i64 v] 102)).alloc (.cells #[.slice none 0 0, .slice none 0 0] 30)).alloc (.cells #[.bool false, .int .i64 0] 113) := ⟨_, rfl⟩
  rw [← hW0]
  have hs0 : W0.heap.size = w.heap.size + 1 + 1 + 1 + 1 := by rw [hW0]; simp
  have hb0 : Below w.heap.size w W0 := by rw [hW0]; exact ((((Below.refl _ _).alloc (Nat.le_refl _) _).alloc (by simp) _).alloc (by simp; omega) _).alloc (by simp; omega) _
  have hx : W0.cell? ⟨w.heap.size, 0, none⟩ = some (.slice y1 L1.length q1) ∧ W0.cell? ⟨w.heap.size, 1, none⟩ = some (.slice y2 L2.length q2) := by rw [hW0]; constructor <;> go_simp
  have hp : (W0.cell? ⟨w.heap.size + 1, 0, none⟩ = some (.int .i64 c) ∧ W0.cell? ⟨w.heap.size + 1, 1, none⟩ = some (.int .i64 s) ∧ W0.cell? ⟨w.heap.size + 1, 2, none⟩ = some (.int .i64 k)) ∧ W0.cell? ⟨w.heap.size + 1, 3, none⟩ = some (.int .i64 o) ∧ W0.cell? ⟨w.heap.size + 1, 4, none⟩ = some (.int .i64 d) ∧ W0.cell? ⟨w.heap.size + 1, 5, none⟩ = some (.int .i64 v) := by rw [hW0]; refine ⟨⟨?_, ?_, ?_⟩, ?_, ?_, ?_⟩ <;> go_simp
  have hr : W0.cell? ⟨w.heap.size + 1 + 1, 0, none⟩ = some (.slice none 0 0) ∧ W0.cell? ⟨w.heap.size + 1 + 1, 1, none⟩ = some (.slice none 0 0) ∧ W0.cell? ⟨w.heap.size + 1 + 1 + 1, 0, none⟩ = some (.bool false) ∧ W0.cell? ⟨w.heap.size + 1 + 1 + 1, 1, none⟩ = some (.int .i64 0) := by rw [hW0]; refine ⟨?_, ?_, ?_, ?_⟩ <;> go_simp
  have hf : (∀ q, W0.frozen? ⟨w.heap.size, q, none⟩ = false) ∧ (∀ q, W0.frozen? ⟨w.heap.size + 1 + 1, q, none⟩ = false) ∧ ∀ q, W0.frozen? ⟨w.heap.size + 1 + 1 + 1, q, none⟩ = false := by rw [hW0]; refine ⟨fun q => ?_, fun q => ?_, fun q => ?_⟩ <;> go_simp
  clear hW0
  refine (copyMachine b1 b2 _ _ L1 L2 W0 h1 h2 (HO1.out.later hb0) (HO2.out.later hb0)).mono ?_
  rintro e w1 ⟨u1, u2, rfl, ho1, ho2, hb1⟩
  obtain ⟨z1, e1, rfl⟩ := ho1.shape
  obtain ⟨z2, e2, rfl⟩ := ho2.shape
  have hM : Mid w.heap.size w ((w1.setCell ⟨w.heap.size, 0, none⟩ (.slice z1 L1.length e1)).setCell ⟨w.heap.size, 1, none⟩ (.slice z2 L2.length e2)) (.slice z1 L1.length e1) (.slice z2 L2.length e2) c s k o d v L1 L2 := mid_start hs0 hb0 hx hp hr hf hb1 ho1 ho2
  have hx0 := (hb1.cell (p := ⟨w.heap.size, 0, none⟩) (by show w.heap.size < W0.heap.size; omega)).trans hx.1
  have hx1 := (hb1.cell (p := ⟨w.heap.size, 1, none⟩) (by show w.heap.size < W0.heap.size; omega)).trans hx.2
  have hxf := fun q => (hb1.frozen (p := ⟨w.heap.size, q, none⟩) (by show w.heap.size < W0.heap.size; omega)).trans (hf.1 q)
  have HM := Lib.hid hM
  clear hs0 hb0 hx hp hr hf hb1 ho1 ho2 hM HO1 HO2
  go_wp2_with fail
  generalize ((w1.setCell ⟨w.heap.size, 0, none⟩ (.slice z1 L1.length e1)).setCell ⟨w.heap.size, 1, none⟩ (.slice z2 L2.length e2)) = W1 at HM ⊢
  clear hx0 hx1 hxf w1 W0
  refine (implIsValidMachine (w.heap.size + 4) (w.heap.size + 4) _ _ L1 L2 W1 h1 h2 HM.out.o1 HM.out.o2).mono ?_
  rw [hm.out]
  rintro e w2 ⟨rfl, hb2⟩
  have HM2 := Lib.hid (HM.out.later hb2)
  clear hb2 HM W1
  obtain ⟨sz, m0, m1, p0, p1, p2, p3, p4, p5, a0, a1, r0, r1, f0, f2, f3, -, -, -⟩ := HM2.out
  go_wp2_with fail
  have jv := implIsValidOp c s k o d v w2
  unfold opV at jv
  refine jv.mono ?_
  rw [hv.out]
  rintro e w3 ⟨rfl, hb3⟩
  have HM3 := Lib.hid (HM2.out.later hb3)
  clear hb3 HM2 jv sz m0 m1 p0 p1 p2 p3 p4 p5 a0 a1 r0 r1 f0 f2 f3
  obtain ⟨sz, m0, m1, p0, p1, p2, p3, p4, p5, a0, a1, r0, r1, f0, f2, f3, -, -, -⟩ := HM3.out
  clear w2
  go_wp2_with fail
  refine (tableOf (w.heap.size + 4) _ L2 w3 h2 HM3.out.o2 hw.out).mono ?_
  rintro e w4 ⟨T, rfl, hT, hTs, hb4⟩
  have HM4 := Lib.hid (HM3.out.later hb4)
  have HT := Lib.hid hT
  have HTS := Lib.hid (Nat.le_trans sz hTs)
  have HTG1 := Lib.hid (fun g hg => Nat.lt_of_lt_of_le (HM3.out.o1.block g hg).2 hTs)
  have HTG2 := Lib.hid (fun g hg => Nat.lt_of_lt_of_le (HM3.out.o2.block g hg).2 hTs)
  clear hb4 HM3 hT hTs sz m0 m1 p0 p1 p2 p3 p4 p5 a0 a1 r0 r1 f0 f2 f3
  obtain ⟨sz, m0, m1, p0, p1, p2, p3, p4, p5, a0, a1, r0, r1, f0, f2, f3, -, -, -⟩ := HM4.out
  clear w3
  have n0 : w.heap.size ≠ w4.heap.size := by omega
  have n1 : w.heap.size + 1 ≠ w4.heap.size := by omega
  have n2 : w.heap.size + 1 + 1 ≠ w4.heap.size := by omega
  have n3 : w.heap.size + 1 + 1 + 1 ≠ w4.heap.size := by omega
  obtain ⟨g, cap, he, -, -, hgB, hgW⟩ := HM4.out.o1.there (by have := hoL.out; omega)
  injection he with he1 _ he3
  subst he1
  subst he3
  have HGT := Lib.hid (HTG1.out g rfl)
  have JP := fun (W : World) (hM : Mid w.heap.size w W (.slice (some ⟨g, 0, none⟩) L1.length e1) (.slice z2 L2.length e2) c s k o d v L1 L2) => performOp (w.heap.size + 4) g e1 L1 c s k d v o W h1 hM.o1 hoL.out hk.out
  unfold opV at JP
  rw [hx.out, hdn.out] at JP
  have JP' := fun W hM => Lib.hid (JP W hM)
  clear JP
  go_wp2_with (first
    | (at_lookup; refine look_sess _ rfl _ _ rfl T L2.length L2 c rfl HT.out rfl hc.out hnd.out (fun _ _ _ _ hno _ => absurd (hno.symm.trans hh.out) (by simp)) ?_; intro l1 l2 l3 l4 _; (have HM5 := Lib.hid (HM4.out.later (show Below w4.heap.size w4 (w4.alloc (.cells #[.int .i64 l1, .int .i64 l2, .bool l3, .int .i64 l4] 120)) from (Below.refl _ _).alloc (Nat.le_refl _) _))); clear sz m0 m1 p0 p1 p2 p3 p4 p5 a0 a1 r0 r1 f0 f2 f3; obtain ⟨sz, m0, m1, p0, p1, p2, p3, p4, p5, a0, a1, r0, r1, f0, f2, f3, -, -, -⟩ := HM5.out)
    | (go_at_call 103; (with_reducible refine (JP' _ HM5.out).out.mono ?_); rintro e w6 ⟨rfl, ho6, hg6⟩
       have HM6 := Lib.hid (HM5.out.grown hg6 ho6)
       have HT6 := Lib.hid ((HT.out.alloc (.cells #[.int .i64 l1, .int .i64 l2, .bool l3, .int .i64 l4] 120)).kept hg6 (by intro e; cases e; have := HGT.out; omega))
       have HM7 := Lib.hid (HM6.out.later (show Below w6.heap.size w6 (w6.alloc (.cells #[.bool dn, .int .i64 x] 113)) from (Below.refl _ _).alloc (Nat.le_refl _) _))
       have HT7 := Lib.hid (HT6.out.alloc (.cells #[.bool dn, .int .i64 x] 113))
       clear sz m0 m1 p0 p1 p2 p3 p4 p5 a0 a1 r0 r1 f0 f2 f3
       obtain ⟨sz, m0, m1, p0, p1, p2, p3, p4, p5, a0, a1, r0, r1, f0, f2, f3, -, -, -⟩ := HM7.out)
    | (at_mapUpdate; refine wpList_mapUpdate_own _ rfl _ _ _ 152 rfl 3 120 keyInt Tryz.underlying152 sessElem T L2.length _ rfl HT7.out (by unfold maxLen; omega) _ _ _ rfl rfl (keyOf_int_mk Tryz.underlying3 hc.out) (sessD (c, s, dn, x)) [] (sessElem_mk (c, s, dn, x)) ?_; intro w8 hown8 hg8
       have HM8 := Lib.hid (HM7.out.past hg8 (by have := HTS.out; omega) (fun q hq e => by have := HTG1.out q hq; omega) (fun q hq e => by have := HTG2.out q hq; omega))
       have HT8 := Lib.hid hown8)
    | (go_at_call 104; (with_reducible refine (sorted_walk sortsS T (L2.length + 1) _ w8 (by omega) (ownsMap_lt HT8.out) HT8.out (fun k zd y => keys_ok hnd.out (c, s, dn, x) k zd y)).mono ?_); rintro e w9 ⟨v9, ss, rfl, ho9, hnd9, hso9, hm9, hb9⟩
       obtain rfl : ss = insR L2 (c, s, dn, x) := sorted_ins hpw.out hnd9 hso9 hm9
       obtain ⟨z9, e9, rfl⟩ := ho9.shape
       have hT6 := ownsMap_lt HT6.out
       have hz8 := hg8.size
       simp only [World.size_alloc] at hz8
       have hb8 : w8.heap[w6.heap.size]? = (w6.alloc (.cells #[.bool dn, .int .i64 x] 113)).heap[w6.heap.size]? := hg8.block w6.heap.size (by simp) (by intro e; cases e; omega)
       have hb9' : w9.heap[w6.heap.size]? = (w6.alloc (.cells #[.bool dn, .int .i64 x] 113)).heap[w6.heap.size]? := (hb9.block w6.heap.size (by omega)).trans hb8
       have g0 : w9.cell? ⟨w6.heap.size, 0, none⟩ = some (.bool dn) := (World.cell?_of_block (a := ⟨w6.heap.size, 0, none⟩) hb9').trans (by rw [World.cell?_alloc_at _ _ _ _ rfl]; rfl)
       have g1 : w9.cell? ⟨w6.heap.size, 1, none⟩ = some (.int .i64 x) := (World.cell?_of_block (a := ⟨w6.heap.size, 1, none⟩) hb9').trans (by rw [World.cell?_alloc_at _ _ _ _ rfl]; rfl)
       have HM9 := Lib.hid (HM8.out.later hb9)
       have HM10 := Lib.hid (HM9.out.set1 (ho9.mono HM8.out.sz))
       have s6 := HM6.out.sz
       have k0 : w6.heap.size ≠ w.heap.size := by omega
       have k2 : w6.heap.size ≠ w.heap.size + 1 + 1 := by omega
       have k3 : w6.heap.size ≠ w.heap.size + 1 + 1 + 1 := by omega
       clear sz m0 m1 p0 p1 p2 p3 p4 p5 a0 a1 r0 r1 f0 f2 f3 hb8 hb9' hz8 hT6 s6 ho9 hnd9 hso9 hm9 hb9
       obtain ⟨sz, m0, m1, p0, p1, p2, p3, p4, p5, a0, a1, r0, r1, f0, f2, f3, -, -, -⟩ := HM9.out)
    | go_in)
  go_region
  go_wp2_with fail
  refine bodyPost_ret (v := .tuple #[.agg #[.slice (some ⟨g, 0, none⟩) L1.length e1, .slice z9 (insR L2 (c, s, dn, x)).length e9], .agg #[.bool dn, .int .i64 x], .bool true]) (by simp [results, Tryz.results70, go_sem, a0, a1, r0, r1]) rfl ⟨_, _, rfl, (mid_end HM10.out _ _ _ _).1, (mid_end HM10.out _ _ _ _).2.1, (mid_end HM10.out _ _ _ _).2.2.drew⟩
end Go.Proofs.YtpdpejlcilnafaaGreatDoor.kit
