/-
  Chapter 4: spec's ApplyOp, the cases that change nothing.
-/
import Derived.Test.YtgjebjoaemeeoaaGreatDoorS4CopyL
import Derived.Test.YtgjebjoaemeeoaaGreatDoorS4Tab
import Derived.Test.YtgjebjoaemeeoaaGreatDoorS4Valid
import Derived.Test.YtgjebjoaemeeoaaGreatDoorS4Read
import Derived.Test.YtgjebjoaemeeoaaGreatDoorS4Sess
namespace Go.Proofs.YtgjebjoaemeeoaaGreatDoor.kit
open Go.ChangeShapes Go.WideShapes Go.ChangeAt Go.RowKit Go.Maps
set_option linter.unusedVariables false

/-- what stands behind spec's copy: the argument's box at B, the operation's at B + 1, the results at B + 2 and B + 3, the copy's box at X -/
structure MidS (B X : Nat) (w W : World) (y1 y2 u1 u2 : Value) (c s k o d v : Int) (L1 : List Int) (L2 : List Sess) : Prop where
  hX : B + 4 ≤ X
  sz : X + 1 ≤ W.heap.size
  m0 : W.cell? ⟨B, 0, none⟩ = some y1
  m1 : W.cell? ⟨B, 1, none⟩ = some y2
  p0 : W.cell? ⟨B + 1, 0, none⟩ = some (.int .i64 c)
  p1 : W.cell? ⟨B + 1, 1, none⟩ = some (.int .i64 s)
  p2 : W.cell? ⟨B + 1, 2, none⟩ = some (.int .i64 k)
  p3 : W.cell? ⟨B + 1, 3, none⟩ = some (.int .i64 o)
  p4 : W.cell? ⟨B + 1, 4, none⟩ = some (.int .i64 d)
  p5 : W.cell? ⟨B + 1, 5, none⟩ = some (.int .i64 v)
  a0 : W.cell? ⟨B + 1 + 1, 0, none⟩ = some (.slice none 0 0)
  a1 : W.cell? ⟨B + 1 + 1, 1, none⟩ = some (.slice none 0 0)
  r0 : W.cell? ⟨B + 1 + 1 + 1, 0, none⟩ = some (.bool false)
  r1 : W.cell? ⟨B + 1 + 1 + 1, 1, none⟩ = some (.int .i64 0)
  x0 : W.cell? ⟨X, 0, none⟩ = some u1
  x1 : W.cell? ⟨X, 1, none⟩ = some u2
  f2 : ∀ q, W.frozen? ⟨B + 1 + 1, q, none⟩ = false
  f3 : ∀ q, W.frozen? ⟨B + 1 + 1 + 1, q, none⟩ = false
  fx : ∀ q, W.frozen? ⟨X, q, none⟩ = false
  o1 : OwnI (B + 4) W u1 L1
  o2 : OwnS (B + 4) W u2 L2
  b1 : ∀ g, u1.ownBlock = some g → g < X
  bl : Below B w W
theorem MidS.later {B X : Nat} {w W W' : World} {y1 y2 u1 u2 : Value} {c s k o d v : Int} {L1 : List Int} {L2 : List Sess} (h : MidS B X w W y1 y2 u1 u2 c s k o d v L1 L2) (hb : Below W.heap.size W W') : MidS B X w W' y1 y2 u1 u2 c s k o d v L1 L2 := by
  have hs := h.sz
  have hX := h.hX
  have hc : ∀ b q, b ≤ X → W'.cell? ⟨b, q, none⟩ = W.cell? ⟨b, q, none⟩ := fun b q hq => hb.cell (p := ⟨b, q, none⟩) (by show b < W.heap.size; omega)
  have hf : ∀ b q, b ≤ X → W'.frozen? ⟨b, q, none⟩ = W.frozen? ⟨b, q, none⟩ := fun b q hq => hb.frozen (p := ⟨b, q, none⟩) (by show b < W.heap.size; omega)
  exact { hX := hX, sz := Nat.le_trans h.sz hb.size, m0 := (hc _ _ (by omega)).trans h.m0, m1 := (hc _ _ (by omega)).trans h.m1, p0 := (hc _ _ (by omega)).trans h.p0, p1 := (hc _ _ (by omega)).trans h.p1, p2 := (hc _ _ (by omega)).trans h.p2,
          p3 := (hc _ _ (by omega)).trans h.p3, p4 := (hc _ _ (by omega)).trans h.p4, p5 := (hc _ _ (by omega)).trans h.p5, a0 := (hc _ _ (by omega)).trans h.a0, a1 := (hc _ _ (by omega)).trans h.a1, r0 := (hc _ _ (by omega)).trans h.r0, r1 := (hc _ _ (by omega)).trans h.r1,
          x0 := (hc _ _ (by omega)).trans h.x0, x1 := (hc _ _ (by omega)).trans h.x1,
          f2 := fun q => (hf _ _ (by omega)).trans (h.f2 q), f3 := fun q => (hf _ _ (by omega)).trans (h.f3 q), fx := fun q => (hf _ _ (by omega)).trans (h.fx q), o1 := h.o1.later hb, o2 := h.o2.later hb, b1 := h.b1, bl := h.bl.trans (hb.mono (by omega)) }
theorem midS_start {w W0 w1 : World} {y1 y2 u1 u2 : Value} {c s k o d v : Int} {L1 : List Int} {L2 : List Sess} (hs0 : W0.heap.size = w.heap.size + 1 + 1 + 1 + 1) (hb0 : Below w.heap.size w W0)
    (hx : W0.cell? ⟨w.heap.size, 0, none⟩ = some y1 ∧ W0.cell? ⟨w.heap.size, 1, none⟩ = some y2)
    (hp : (W0.cell? ⟨w.heap.size + 1, 0, none⟩ = some (.int .i64 c) ∧ W0.cell? ⟨w.heap.size + 1, 1, none⟩ = some (.int .i64 s) ∧ W0.cell? ⟨w.heap.size + 1, 2, none⟩ = some (.int .i64 k)) ∧ W0.cell? ⟨w.heap.size + 1, 3, none⟩ = some (.int .i64 o) ∧ W0.cell? ⟨w.heap.size + 1, 4, none⟩ = some (.int .i64 d) ∧ W0.cell? ⟨w.heap.size + 1, 5, none⟩ = some (.int .i64 v))
    (hr : W0.cell? ⟨w.heap.size + 1 + 1, 0, none⟩ = some (.slice none 0 0) ∧ W0.cell? ⟨w.heap.size + 1 + 1, 1, none⟩ = some (.slice none 0 0) ∧ W0.cell? ⟨w.heap.size + 1 + 1 + 1, 0, none⟩ = some (.bool false) ∧ W0.cell? ⟨w.heap.size + 1 + 1 + 1, 1, none⟩ = some (.int .i64 0))
    (hf : (∀ q, W0.frozen? ⟨w.heap.size + 1 + 1, q, none⟩ = false) ∧ ∀ q, W0.frozen? ⟨w.heap.size + 1 + 1 + 1, q, none⟩ = false)
    (hb1 : Below W0.heap.size W0 w1) (ho1 : OwnI W0.heap.size w1 u1 L1) (ho2 : OwnS W0.heap.size w1 u2 L2) :
    MidS w.heap.size w1.heap.size w (w1.alloc (.cells #[u1, u2] 44)) y1 y2 u1 u2 c s k o d v L1 L2 := by
  have hz := hb1.size
  have hal : Below w1.heap.size w1 (w1.alloc (.cells #[u1, u2] 44)) := (Below.refl _ _).alloc (Nat.le_refl _) _
  have hc : ∀ b q, b < w.heap.size + 4 → (w1.alloc (.cells #[u1, u2] 44)).cell? ⟨b, q, none⟩ = W0.cell? ⟨b, q, none⟩ := fun b q hq => (hal.cell (p := ⟨b, q, none⟩) (by show b < w1.heap.size; omega)).trans (hb1.cell (p := ⟨b, q, none⟩) (by show b < W0.heap.size; omega))
  have hg : ∀ b q, b < w.heap.size + 4 → (w1.alloc (.cells #[u1, u2] 44)).frozen? ⟨b, q, none⟩ = W0.frozen? ⟨b, q, none⟩ := fun b q hq => (hal.frozen (p := ⟨b, q, none⟩) (by show b < w1.heap.size; omega)).trans (hb1.frozen (p := ⟨b, q, none⟩) (by show b < W0.heap.size; omega))
  exact { hX := by omega, sz := by simp, m0 := (hc _ _ (by omega)).trans hx.1, m1 := (hc _ _ (by omega)).trans hx.2,
          p0 := (hc _ _ (by omega)).trans hp.1.1, p1 := (hc _ _ (by omega)).trans hp.1.2.1, p2 := (hc _ _ (by omega)).trans hp.1.2.2, p3 := (hc _ _ (by omega)).trans hp.2.1, p4 := (hc _ _ (by omega)).trans hp.2.2.1, p5 := (hc _ _ (by omega)).trans hp.2.2.2,
          a0 := (hc _ _ (by omega)).trans hr.1, a1 := (hc _ _ (by omega)).trans hr.2.1, r0 := (hc _ _ (by omega)).trans hr.2.2.1, r1 := (hc _ _ (by omega)).trans hr.2.2.2,
          x0 := by rw [World.cell?_alloc_at _ _ _ _ rfl]; rfl, x1 := by rw [World.cell?_alloc_at _ _ _ _ rfl]; rfl,
          f2 := fun q => (hg _ _ (by omega)).trans (hf.1 q), f3 := fun q => (hg _ _ (by omega)).trans (hf.2 q), fx := fun q => World.frozen?_alloc_new w1 _ _ q,
          o1 := (ho1.mono (by omega)).later hal, o2 := (ho2.mono (by omega)).later hal, b1 := fun g h => (ho1.block g h).2,
          bl := (hb0.trans (hb1.mono (by omega))).trans (hal.mono (by omega)) }
theorem midS_end {B X : Nat} {w W : World} {y1 y2 u1 u2 : Value} {c s k o d v : Int} {L1 : List Int} {L2 : List Sess} (h : MidS B X w W y1 y2 u1 u2 c s k o d v L1 L2) (x0 x1 x2 x3 : Value) :
    OwnI B ((((W.setCell ⟨B + 1 + 1, 0, none⟩ x0).setCell ⟨B + 1 + 1, 1, none⟩ x1).setCell ⟨B + 1 + 1 + 1, 0, none⟩ x2).setCell ⟨B + 1 + 1 + 1, 1, none⟩ x3) u1 L1 ∧
    OwnS B ((((W.setCell ⟨B + 1 + 1, 0, none⟩ x0).setCell ⟨B + 1 + 1, 1, none⟩ x1).setCell ⟨B + 1 + 1 + 1, 0, none⟩ x2).setCell ⟨B + 1 + 1 + 1, 1, none⟩ x3) u2 L2 ∧
    Below B w ((((W.setCell ⟨B + 1 + 1, 0, none⟩ x0).setCell ⟨B + 1 + 1, 1, none⟩ x1).setCell ⟨B + 1 + 1 + 1, 0, none⟩ x2).setCell ⟨B + 1 + 1 + 1, 1, none⟩ x3) := by
  refine ⟨?_, ?_, ?_⟩
  · exact ((((h.o1.setBelow (a := ⟨B + 1 + 1, 0, none⟩) (by show B + 1 + 1 < B + 4; omega) _).setBelow (a := ⟨B + 1 + 1, 1, none⟩) (by show B + 1 + 1 < B + 4; omega) _).setBelow (a := ⟨B + 1 + 1 + 1, 0, none⟩) (by show B + 1 + 1 + 1 < B + 4; omega) _).setBelow (a := ⟨B + 1 + 1 + 1, 1, none⟩) (by show B + 1 + 1 + 1 < B + 4; omega) _).mono (by omega)
  · exact ((((h.o2.setBelow (a := ⟨B + 1 + 1, 0, none⟩) (by show B + 1 + 1 < B + 4; omega) _).setBelow (a := ⟨B + 1 + 1, 1, none⟩) (by show B + 1 + 1 < B + 4; omega) _).setBelow (a := ⟨B + 1 + 1 + 1, 0, none⟩) (by show B + 1 + 1 + 1 < B + 4; omega) _).setBelow (a := ⟨B + 1 + 1 + 1, 1, none⟩) (by show B + 1 + 1 + 1 < B + 4; omega) _).mono (by omega)
  · exact (((h.bl.setCell (p := ⟨B + 1 + 1, 0, none⟩) (by show B ≤ B + 1 + 1; omega) _).setCell (p := ⟨B + 1 + 1, 1, none⟩) (by show B ≤ B + 1 + 1; omega) _).setCell (p := ⟨B + 1 + 1 + 1, 0, none⟩) (by show B ≤ B + 1 + 1 + 1; omega) _).setCell (p := ⟨B + 1 + 1 + 1, 1, none⟩) (by show B ≤ B + 1 + 1 + 1; omega) _
set_option maxRecDepth 100000 in
set_option maxHeartbeats 8000000 in
theorem appL_noMs (v1 v2 : Value) (L1 : List Int) (L2 : List Sess) (c s k o d v : Int) (w : World) (h1 : L1.length ≤ 4194304) (h2 : L2.length ≤ 4194304) (o1 : SrcI w.heap.size w v1 L1) (o2 : SrcS w.heap.size w v2 L2) (hm : Hid (decide (MOk L1 L2) = false)) :
    Calls Tryz.prog 105 #[.agg #[v1, v2], opV c s k o d v] w fun e w' => ∃ u1 u2, e = .returned (.tuple #[.agg #[u1, u2], .agg #[.bool false, .int .i64 0], .bool false]) ∧ OwnI w.heap.size w' u1 L1 ∧ OwnS w.heap.size w' u2 L2 ∧ Below w.heap.size w w' := by
  obtain ⟨y1, q1, rfl⟩ := o1.shape
  obtain ⟨y2, q2, rfl⟩ := o2.shape
  have HO1 := Lib.hid o1
  have HO2 := Lib.hid o2
  clear o1 o2
  go_enter Tryz.func105, Tryz.ntmps105
  unfold opV
  go_wp2_with fail
  obtain ⟨W0, hW0⟩ : ∃ W, W = (((w.alloc (.cells #[.slice y1 L1.length q1, .slice y2 L2.length q2] 44)).alloc (.cells #[.int .i64 c, .int .i64 s, .int .i64 k, .int .i64 o, .int .i64 d, .int .i64 v] 25)).alloc (.cells #[.slice none 0 0, .slice none 0 0] 44)).alloc (.cells #[.bool false, .int .i64 0] 96) := ⟨_, rfl⟩
  rw [← hW0]
  have hs0 : W0.heap.size = w.heap.size + 1 + 1 + 1 + 1 := by rw [hW0]; simp
  have hb0 : Below w.heap.size w W0 := by rw [hW0]; exact ((((Below.refl _ _).alloc (Nat.le_refl _) _).alloc (by simp) _).alloc (by simp; omega) _).alloc (by simp; omega) _
  have hx : W0.cell? ⟨w.heap.size, 0, none⟩ = some (.slice y1 L1.length q1) ∧ W0.cell? ⟨w.heap.size, 1, none⟩ = some (.slice y2 L2.length q2) := by rw [hW0]; constructor <;> go_simp
  have hp : (W0.cell? ⟨w.heap.size + 1, 0, none⟩ = some (.int .i64 c) ∧ W0.cell? ⟨w.heap.size + 1, 1, none⟩ = some (.int .i64 s) ∧ W0.cell? ⟨w.heap.size + 1, 2, none⟩ = some (.int .i64 k)) ∧ W0.cell? ⟨w.heap.size + 1, 3, none⟩ = some (.int .i64 o) ∧ W0.cell? ⟨w.heap.size + 1, 4, none⟩ = some (.int .i64 d) ∧ W0.cell? ⟨w.heap.size + 1, 5, none⟩ = some (.int .i64 v) := by rw [hW0]; refine ⟨⟨?_, ?_, ?_⟩, ?_, ?_, ?_⟩ <;> go_simp
  have hr : W0.cell? ⟨w.heap.size + 1 + 1, 0, none⟩ = some (.slice none 0 0) ∧ W0.cell? ⟨w.heap.size + 1 + 1, 1, none⟩ = some (.slice none 0 0) ∧ W0.cell? ⟨w.heap.size + 1 + 1 + 1, 0, none⟩ = some (.bool false) ∧ W0.cell? ⟨w.heap.size + 1 + 1 + 1, 1, none⟩ = some (.int .i64 0) := by rw [hW0]; refine ⟨?_, ?_, ?_, ?_⟩ <;> go_simp
  have hf : (∀ q, W0.frozen? ⟨w.heap.size + 1 + 1, q, none⟩ = false) ∧ ∀ q, W0.frozen? ⟨w.heap.size + 1 + 1 + 1, q, none⟩ = false := by rw [hW0]; refine ⟨fun q => ?_, fun q => ?_⟩ <;> go_simp
  clear hW0
  refine (l4CopyS _ _ L1 L2 W0 h1 h2 (HO1.out.srcLater hb0) (HO2.out.srcLater hb0)).mono ?_
  rintro e w1 ⟨u1, u2, rfl, ho1, ho2, hb1⟩
  obtain ⟨z1, e1, rfl⟩ := ho1.shape
  obtain ⟨z2, e2, rfl⟩ := ho2.shape
  have hM : MidS w.heap.size w1.heap.size w (w1.alloc (.cells #[.slice z1 L1.length e1, .slice z2 L2.length e2] 44)) (.slice y1 L1.length q1) (.slice y2 L2.length q2) (.slice z1 L1.length e1) (.slice z2 L2.length e2) c s k o d v L1 L2 := midS_start hs0 hb0 hx hp hr hf hb1 ho1 ho2
  have HM := Lib.hid hM
  have hx0 := hM.m0
  have hx1 := hM.m1
  have hn0 : w.heap.size ≠ w1.heap.size := by have := hb1.size; omega
  clear hs0 hb0 hx hp hr hf hb1 ho1 ho2 hM
  go_wp2_with fail
  obtain ⟨W1, hW1⟩ : ∃ W, W = w1.alloc (.cells #[.slice z1 L1.length e1, .slice z2 L2.length e2] 44) := ⟨_, rfl⟩
  rw [← hW1] at HM ⊢
  clear hW1 hx0 hx1 hn0 W0
  obtain ⟨X, hX⟩ : ∃ X, X = w1.heap.size := ⟨_, rfl⟩
  rw [← hX] at HM ⊢
  clear hX w1
  refine (specIsValidMachineA y1 q1 L1 y2 q2 L2 W1 h1 h2 ((HO1.out.srcLater HM.out.bl).at (Nat.le_refl _)) ((HO2.out.srcLater HM.out.bl).at (Nat.le_refl _))).mono ?_
  rw [hm.out]
  rintro e w2 ⟨rfl, hb2⟩
  have HM2 := Lib.hid (HM.out.later hb2)
  clear hb2 HM W1
  obtain ⟨hX, sz, m0, m1, p0, p1, p2, p3, p4, p5, a0, a1, r0, r1, x0, x1, f2, f3, fx, -, -, -, -⟩ := HM2.out
  go_wp2_with fail
  refine bodyPost_ret (v := .tuple #[.agg #[.slice z1 L1.length e1, .slice z2 L2.length e2], .agg #[.bool false, .int .i64 0], .bool false]) (by simp [results, Tryz.results105, go_sem, a0, a1, r0, r1]) rfl ⟨_, _, rfl, (midS_end HM2.out _ _ _ _).1, (midS_end HM2.out _ _ _ _).2.1, (midS_end HM2.out _ _ _ _).2.2⟩
theorem appL_noM (b1 b2 : Nat) (v1 v2 : Value) (L1 : List Int) (L2 : List Sess) (c s k o d v : Int) (w : World) (h1 : L1.length ≤ 4194304) (h2 : L2.length ≤ 4194304) (o1 : OwnI b1 w v1 L1) (o2 : OwnS b2 w v2 L2) (hm : Hid (decide (MOk L1 L2) = false)) :
    Calls Tryz.prog 105 #[.agg #[v1, v2], opV c s k o d v] w fun e w' => ∃ u1 u2, e = .returned (.tuple #[.agg #[u1, u2], .agg #[.bool false, .int .i64 0], .bool false]) ∧ OwnI w.heap.size w' u1 L1 ∧ OwnS w.heap.size w' u2 L2 ∧ Below w.heap.size w w' := appL_noMs v1 v2 L1 L2 c s k o d v w h1 h2 (SrcI.own o1) (SrcS.own o2) hm
set_option maxRecDepth 100000 in
set_option maxHeartbeats 8000000 in
theorem appL_noO (b1 b2 : Nat) (v1 v2 : Value) (L1 : List Int) (L2 : List Sess) (c s k o d v : Int) (w : World) (h1 : L1.length ≤ 4194304) (h2 : L2.length ≤ 4194304) (o1 : OwnI b1 w v1 L1) (o2 : OwnS b2 w v2 L2) (hm : Hid (decide (MOk L1 L2) = true)) (hv : Hid (okOp c s k o d v = false)) :
    Calls Tryz.prog 105 #[.agg #[v1, v2], opV c s k o d v] w fun e w' => ∃ u1 u2, e = .returned (.tuple #[.agg #[u1, u2], .agg #[.bool false, .int .i64 0], .bool false]) ∧ OwnI w.heap.size w' u1 L1 ∧ OwnS w.heap.size w' u2 L2 ∧ Below w.heap.size w w' := by
  obtain ⟨y1, q1, rfl⟩ := o1.shape
  obtain ⟨y2, q2, rfl⟩ := o2.shape
  have HO1 := Lib.hid o1
  have HO2 := Lib.hid o2
  clear o1 o2
  go_enter Tryz.func105, Tryz.ntmps105
  unfold opV
  go_wp2_with fail
  obtain ⟨W0, hW0⟩ : ∃ W, W = (((w.alloc (.cells #[.slice y1 L1.length q1, .slice y2 L2.length q2] 44)).alloc (.cells #[.int .i64 c, .int .i64 s, .int .i64 k, .int .i64 o, .int .i64 d, .int .i64 v] 25)).alloc (.cells #[.slice none 0 0, .slice none 0 0] 44)).alloc (.cells #[.bool false, .int .i64 0] 96) := ⟨_, rfl⟩
  rw [← hW0]
  have hs0 : W0.heap.size = w.heap.size + 1 + 1 + 1 + 1 := by rw [hW0]; simp
  have hb0 : Below w.heap.size w W0 := by rw [hW0]; exact ((((Below.refl _ _).alloc (Nat.le_refl _) _).alloc (by simp) _).alloc (by simp; omega) _).alloc (by simp; omega) _
  have hx : W0.cell? ⟨w.heap.size, 0, none⟩ = some (.slice y1 L1.length q1) ∧ W0.cell? ⟨w.heap.size, 1, none⟩ = some (.slice y2 L2.length q2) := by rw [hW0]; constructor <;> go_simp
  have hp : (W0.cell? ⟨w.heap.size + 1, 0, none⟩ = some (.int .i64 c) ∧ W0.cell? ⟨w.heap.size + 1, 1, none⟩ = some (.int .i64 s) ∧ W0.cell? ⟨w.heap.size + 1, 2, none⟩ = some (.int .i64 k)) ∧ W0.cell? ⟨w.heap.size + 1, 3, none⟩ = some (.int .i64 o) ∧ W0.cell? ⟨w.heap.size + 1, 4, none⟩ = some (.int .i64 d) ∧ W0.cell? ⟨w.heap.size + 1, 5, none⟩ = some (.int .i64 v) := by rw [hW0]; refine ⟨⟨?_, ?_, ?_⟩, ?_, ?_, ?_⟩ <;> go_simp
  have hr : W0.cell? ⟨w.heap.size + 1 + 1, 0, none⟩ = some (.slice none 0 0) ∧ W0.cell? ⟨w.heap.size + 1 + 1, 1, none⟩ = some (.slice none 0 0) ∧ W0.cell? ⟨w.heap.size + 1 + 1 + 1, 0, none⟩ = some (.bool false) ∧ W0.cell? ⟨w.heap.size + 1 + 1 + 1, 1, none⟩ = some (.int .i64 0) := by rw [hW0]; refine ⟨?_, ?_, ?_, ?_⟩ <;> go_simp
  have hf : (∀ q, W0.frozen? ⟨w.heap.size + 1 + 1, q, none⟩ = false) ∧ ∀ q, W0.frozen? ⟨w.heap.size + 1 + 1 + 1, q, none⟩ = false := by rw [hW0]; refine ⟨fun q => ?_, fun q => ?_⟩ <;> go_simp
  clear hW0
  refine (l4CopyS _ _ L1 L2 W0 h1 h2 (HO1.out.srcLater hb0) (HO2.out.srcLater hb0)).mono ?_
  rintro e w1 ⟨u1, u2, rfl, ho1, ho2, hb1⟩
  obtain ⟨z1, e1, rfl⟩ := ho1.shape
  obtain ⟨z2, e2, rfl⟩ := ho2.shape
  have hM : MidS w.heap.size w1.heap.size w (w1.alloc (.cells #[.slice z1 L1.length e1, .slice z2 L2.length e2] 44)) (.slice y1 L1.length q1) (.slice y2 L2.length q2) (.slice z1 L1.length e1) (.slice z2 L2.length e2) c s k o d v L1 L2 := midS_start hs0 hb0 hx hp hr hf hb1 ho1 ho2
  have HM := Lib.hid hM
  have hx0 := hM.m0
  have hx1 := hM.m1
  have hn0 : w.heap.size ≠ w1.heap.size := by have := hb1.size; omega
  clear hs0 hb0 hx hp hr hf hb1 ho1 ho2 hM
  go_wp2_with fail
  obtain ⟨W1, hW1⟩ : ∃ W, W = w1.alloc (.cells #[.slice z1 L1.length e1, .slice z2 L2.length e2] 44) := ⟨_, rfl⟩
  rw [← hW1] at HM ⊢
  clear hW1 hx0 hx1 hn0 W0
  obtain ⟨X, hX⟩ : ∃ X, X = w1.heap.size := ⟨_, rfl⟩
  rw [← hX] at HM ⊢
  clear hX w1
  refine (specIsValidMachineA y1 q1 L1 y2 q2 L2 W1 h1 h2 ((HO1.out.srcLater HM.out.bl).at (Nat.le_refl _)) ((HO2.out.srcLater HM.out.bl).at (Nat.le_refl _))).mono ?_
  rw [hm.out]
  rintro e w2 ⟨rfl, hb2⟩
  have HM2 := Lib.hid (HM.out.later hb2)
  clear hb2 HM W1
  obtain ⟨hX, sz, m0, m1, p0, p1, p2, p3, p4, p5, a0, a1, r0, r1, x0, x1, f2, f3, fx, -, -, -, -⟩ := HM2.out
  go_wp2_with fail
  have jv := specIsValidOp c s k o d v w2
  unfold opV at jv
  refine jv.mono ?_
  rw [hv.out]
  rintro e w3 ⟨rfl, hb3⟩
  have HM3 := Lib.hid (HM2.out.later hb3)
  clear hb3 HM2 jv hX sz m0 m1 p0 p1 p2 p3 p4 p5 a0 a1 r0 r1 x0 x1 f2 f3 fx
  obtain ⟨hX, sz, m0, m1, p0, p1, p2, p3, p4, p5, a0, a1, r0, r1, x0, x1, f2, f3, fx, -, -, -, -⟩ := HM3.out
  clear w2
  go_wp2_with fail
  refine bodyPost_ret (v := .tuple #[.agg #[.slice z1 L1.length e1, .slice z2 L2.length e2], .agg #[.bool false, .int .i64 0], .bool false]) (by simp [results, Tryz.results105, go_sem, a0, a1, r0, r1]) rfl ⟨_, _, rfl, (midS_end HM3.out _ _ _ _).1, (midS_end HM3.out _ _ _ _).2.1, (midS_end HM3.out _ _ _ _).2.2⟩
set_option maxRecDepth 100000 in
set_option maxHeartbeats 8000000 in
theorem appL_same (b1 b2 : Nat) (v1 v2 : Value) (L1 : List Int) (L2 : List Sess) (c s k o d v : Int) (w : World) (h1 : L1.length ≤ 4194304) (h2 : L2.length ≤ 4194304) (o1 : OwnI b1 w v1 L1) (o2 : OwnS b2 w v2 L2) (hm : Hid (decide (MOk L1 L2) = true)) (hv : Hid (okOp c s k o d v = true))
    (l1 l2 : Int) (l3 : Bool) (l4 : Int) (hh : Hid (hasSess L2 c = true)) (hs : Hid (sessOf L2 c = (l1, l2, l3, l4))) (heq : (l2 == s) = true) :
    Calls Tryz.prog 105 #[.agg #[v1, v2], opV c s k o d v] w fun e w' => ∃ u1 u2, e = .returned (.tuple #[.agg #[u1, u2], .agg #[.bool l3, .int .i64 l4], .bool true]) ∧ OwnI w.heap.size w' u1 L1 ∧ OwnS w.heap.size w' u2 L2 ∧ Below w.heap.size w w' := by
  obtain ⟨y1, q1, rfl⟩ := o1.shape
  obtain ⟨y2, q2, rfl⟩ := o2.shape
  have HO1 := Lib.hid o1
  have HO2 := Lib.hid o2
  clear o1 o2
  go_enter Tryz.func105, Tryz.ntmps105
  unfold opV
  go_wp2_with fail
  obtain ⟨W0, hW0⟩ : ∃ W, W = (((w.alloc (.cells #[.slice y1 L1.length q1, .slice y2 L2.length q2] 44)).alloc (.cells #[.int .i64 c, .int .i64 s, .int .i64 k, .int .i64 o, .int .i64 d, .int .i64 v] 25)).alloc (.cells #[.slice none 0 0, .slice none 0 0] 44)).alloc (.cells #[.bool false, .int .i64 0] 96) := ⟨_, rfl⟩
  rw [← hW0]
  have hs0 : W0.heap.size = w.heap.size + 1 + 1 + 1 + 1 := by rw [hW0]; simp
  have hb0 : Below w.heap.size w W0 := by rw [hW0]; exact ((((Below.refl _ _).alloc (Nat.le_refl _) _).alloc (by simp) _).alloc (by simp; omega) _).alloc (by simp; omega) _
  have hx : W0.cell? ⟨w.heap.size, 0, none⟩ = some (.slice y1 L1.length q1) ∧ W0.cell? ⟨w.heap.size, 1, none⟩ = some (.slice y2 L2.length q2) := by rw [hW0]; constructor <;> go_simp
  have hp : (W0.cell? ⟨w.heap.size + 1, 0, none⟩ = some (.int .i64 c) ∧ W0.cell? ⟨w.heap.size + 1, 1, none⟩ = some (.int .i64 s) ∧ W0.cell? ⟨w.heap.size + 1, 2, none⟩ = some (.int .i64 k)) ∧ W0.cell? ⟨w.heap.size + 1, 3, none⟩ = some (.int .i64 o) ∧ W0.cell? ⟨w.heap.size + 1, 4, none⟩ = some (.int .i64 d) ∧ W0.cell? ⟨w.heap.size + 1, 5, none⟩ = some (.int .i64 v) := by rw [hW0]; refine ⟨⟨?_, ?_, ?_⟩, ?_, ?_, ?_⟩ <;> go_simp
  have hr : W0.cell? ⟨w.heap.size + 1 + 1, 0, none⟩ = some (.slice none 0 0) ∧ W0.cell? ⟨w.heap.size + 1 + 1, 1, none⟩ = some (.slice none 0 0) ∧ W0.cell? ⟨w.heap.size + 1 + 1 + 1, 0, none⟩ = some (.bool false) ∧ W0.cell? ⟨w.heap.size + 1 + 1 + 1, 1, none⟩ = some (.int .i64 0) := by rw [hW0]; refine ⟨?_, ?_, ?_, ?_⟩ <;> go_simp
  have hf : (∀ q, W0.frozen? ⟨w.heap.size + 1 + 1, q, none⟩ = false) ∧ ∀ q, W0.frozen? ⟨w.heap.size + 1 + 1 + 1, q, none⟩ = false := by rw [hW0]; refine ⟨fun q => ?_, fun q => ?_⟩ <;> go_simp
  clear hW0
  refine (l4CopyS _ _ L1 L2 W0 h1 h2 (HO1.out.srcLater hb0) (HO2.out.srcLater hb0)).mono ?_
  rintro e w1 ⟨u1, u2, rfl, ho1, ho2, hb1⟩
  obtain ⟨z1, e1, rfl⟩ := ho1.shape
  obtain ⟨z2, e2, rfl⟩ := ho2.shape
  have hM : MidS w.heap.size w1.heap.size w (w1.alloc (.cells #[.slice z1 L1.length e1, .slice z2 L2.length e2] 44)) (.slice y1 L1.length q1) (.slice y2 L2.length q2) (.slice z1 L1.length e1) (.slice z2 L2.length e2) c s k o d v L1 L2 := midS_start hs0 hb0 hx hp hr hf hb1 ho1 ho2
  have HM := Lib.hid hM
  have hx0 := hM.m0
  have hx1 := hM.m1
  have hn0 : w.heap.size ≠ w1.heap.size := by have := hb1.size; omega
  clear hs0 hb0 hx hp hr hf hb1 ho1 ho2 hM
  go_wp2_with fail
  obtain ⟨W1, hW1⟩ : ∃ W, W = w1.alloc (.cells #[.slice z1 L1.length e1, .slice z2 L2.length e2] 44) := ⟨_, rfl⟩
  rw [← hW1] at HM ⊢
  clear hW1 hx0 hx1 hn0 W0
  obtain ⟨X, hX⟩ : ∃ X, X = w1.heap.size := ⟨_, rfl⟩
  rw [← hX] at HM ⊢
  clear hX w1
  refine (specIsValidMachineA y1 q1 L1 y2 q2 L2 W1 h1 h2 ((HO1.out.srcLater HM.out.bl).at (Nat.le_refl _)) ((HO2.out.srcLater HM.out.bl).at (Nat.le_refl _))).mono ?_
  rw [hm.out]
  rintro e w2 ⟨rfl, hb2⟩
  have HM2 := Lib.hid (HM.out.later hb2)
  clear hb2 HM W1
  obtain ⟨hX, sz, m0, m1, p0, p1, p2, p3, p4, p5, a0, a1, r0, r1, x0, x1, f2, f3, fx, -, -, -, -⟩ := HM2.out
  go_wp2_with fail
  have jv := specIsValidOp c s k o d v w2
  unfold opV at jv
  refine jv.mono ?_
  rw [hv.out]
  rintro e w3 ⟨rfl, hb3⟩
  have HM3 := Lib.hid (HM2.out.later hb3)
  clear hb3 HM2 jv hX sz m0 m1 p0 p1 p2 p3 p4 p5 a0 a1 r0 r1 x0 x1 f2 f3 fx
  obtain ⟨hX, sz, m0, m1, p0, p1, p2, p3, p4, p5, a0, a1, r0, r1, x0, x1, f2, f3, fx, -, -, -, -⟩ := HM3.out
  clear w2
  go_wp2_with fail
  have js := specSessionOf b1 b2 _ _ L1 L2 c w3 h1 h2 (HO1.out.later HM3.out.bl) (HO2.out.later HM3.out.bl)
  rw [hs.out, hh.out] at js
  unfold sessV at js
  simp only at js
  refine js.mono ?_
  rintro e w4 ⟨rfl, hb4⟩
  have HM4 := Lib.hid (HM3.out.later hb4)
  have HM5 := Lib.hid (HM4.out.later ((Below.refl w4.heap.size w4).alloc (Nat.le_refl _) (.cells #[.int .i64 l1, .int .i64 l2, .bool l3, .int .i64 l4] 98)))
  have HSX := Lib.hid (show X < w4.heap.size by have := HM4.out.sz; omega)
  clear hb4 HM3 js hX sz m0 m1 p0 p1 p2 p3 p4 p5 a0 a1 r0 r1 x0 x1 f2 f3 fx
  obtain ⟨hX, sz, m0, m1, p0, p1, p2, p3, p4, p5, a0, a1, r0, r1, x0, x1, f2, f3, fx, -, -, -, -⟩ := HM5.out
  clear w3
  go_wp2_with fail
  go_region
  go_wp2_with fail
  refine bodyPost_ret (v := .tuple #[.agg #[.slice z1 L1.length e1, .slice z2 L2.length e2], .agg #[.bool l3, .int .i64 l4], .bool true]) (by simp [results, Tryz.results105, go_sem, a0, a1, r0, r1]) rfl ⟨_, _, rfl, (midS_end HM5.out _ _ _ _).1, (midS_end HM5.out _ _ _ _).2.1, (midS_end HM5.out _ _ _ _).2.2.drew⟩
set_option maxRecDepth 100000 in
set_option maxHeartbeats 8000000 in
theorem appL_known (b1 b2 : Nat) (v1 v2 : Value) (L1 : List Int) (L2 : List Sess) (c s k o d v : Int) (w : World) (h1 : L1.length ≤ 4194304) (h2 : L2.length ≤ 4194304) (o1 : OwnI b1 w v1 L1) (o2 : OwnS b2 w v2 L2) (hm : Hid (decide (MOk L1 L2) = true)) (hv : Hid (okOp c s k o d v = true))
    (l1 l2 : Int) (l3 : Bool) (l4 : Int) (hh : Hid (hasSess L2 c = true)) (hs : Hid (sessOf L2 c = (l1, l2, l3, l4))) (heq : (l2 == s) = false) (hgt : decide (l2 > s) = true) :
    Calls Tryz.prog 105 #[.agg #[v1, v2], opV c s k o d v] w fun e w' => ∃ u1 u2, e = .returned (.tuple #[.agg #[u1, u2], .agg #[.bool false, .int .i64 0], .bool false]) ∧ OwnI w.heap.size w' u1 L1 ∧ OwnS w.heap.size w' u2 L2 ∧ Below w.heap.size w w' := by
  obtain ⟨y1, q1, rfl⟩ := o1.shape
  obtain ⟨y2, q2, rfl⟩ := o2.shape
  have HO1 := Lib.hid o1
  have HO2 := Lib.hid o2
  clear o1 o2
  go_enter Tryz.func105, Tryz.ntmps105
  unfold opV
  go_wp2_with fail
  obtain ⟨W0, hW0⟩ : ∃ W, W = (((w.alloc (.cells #[.slice y1 L1.length q1, .slice y2 L2.length q2] 44)).alloc (.cells #[.int .i64 c, .int .i64 s, .int .i64 k, .int .i64 o, .int .i64 d, .int .i64 v] 25)).alloc (.cells #[.slice none 0 0, .slice none 0 0] 44)).alloc (.cells #[.bool false, .int .i64 0] 96) := ⟨_, rfl⟩
  rw [← hW0]
  have hs0 : W0.heap.size = w.heap.size + 1 + 1 + 1 + 1 := by rw [hW0]; simp
  have hb0 : Below w.heap.size w W0 := by rw [hW0]; exact ((((Below.refl _ _).alloc (Nat.le_refl _) _).alloc (by simp) _).alloc (by simp; omega) _).alloc (by simp; omega) _
  have hx : W0.cell? ⟨w.heap.size, 0, none⟩ = some (.slice y1 L1.length q1) ∧ W0.cell? ⟨w.heap.size, 1, none⟩ = some (.slice y2 L2.length q2) := by rw [hW0]; constructor <;> go_simp
  have hp : (W0.cell? ⟨w.heap.size + 1, 0, none⟩ = some (.int .i64 c) ∧ W0.cell? ⟨w.heap.size + 1, 1, none⟩ = some (.int .i64 s) ∧ W0.cell? ⟨w.heap.size + 1, 2, none⟩ = some (.int .i64 k)) ∧ W0.cell? ⟨w.heap.size + 1, 3, none⟩ = some (.int .i64 o) ∧ W0.cell? ⟨w.heap.size + 1, 4, none⟩ = some (.int .i64 d) ∧ W0.cell? ⟨w.heap.size + 1, 5, none⟩ = some (.int .i64 v) := by rw [hW0]; refine ⟨⟨?_, ?_, ?_⟩, ?_, ?_, ?_⟩ <;> go_simp
  have hr : W0.cell? ⟨w.heap.size + 1 + 1, 0, none⟩ = some (.slice none 0 0) ∧ W0.cell? ⟨w.heap.size + 1 + 1, 1, none⟩ = some (.slice none 0 0) ∧ W0.cell? ⟨w.heap.size + 1 + 1 + 1, 0, none⟩ = some (.bool false) ∧ W0.cell? ⟨w.heap.size + 1 + 1 + 1, 1, none⟩ = some (.int .i64 0) := by rw [hW0]; refine ⟨?_, ?_, ?_, ?_⟩ <;> go_simp
  have hf : (∀ q, W0.frozen? ⟨w.heap.size + 1 + 1, q, none⟩ = false) ∧ ∀ q, W0.frozen? ⟨w.heap.size + 1 + 1 + 1, q, none⟩ = false := by rw [hW0]; refine ⟨fun q => ?_, fun q => ?_⟩ <;> go_simp
  clear hW0
  refine (l4CopyS _ _ L1 L2 W0 h1 h2 (HO1.out.srcLater hb0) (HO2.out.srcLater hb0)).mono ?_
  rintro e w1 ⟨u1, u2, rfl, ho1, ho2, hb1⟩
  obtain ⟨z1, e1, rfl⟩ := ho1.shape
  obtain ⟨z2, e2, rfl⟩ := ho2.shape
  have hM : MidS w.heap.size w1.heap.size w (w1.alloc (.cells #[.slice z1 L1.length e1, .slice z2 L2.length e2] 44)) (.slice y1 L1.length q1) (.slice y2 L2.length q2) (.slice z1 L1.length e1) (.slice z2 L2.length e2) c s k o d v L1 L2 := midS_start hs0 hb0 hx hp hr hf hb1 ho1 ho2
  have HM := Lib.hid hM
  have hx0 := hM.m0
  have hx1 := hM.m1
  have hn0 : w.heap.size ≠ w1.heap.size := by have := hb1.size; omega
  clear hs0 hb0 hx hp hr hf hb1 ho1 ho2 hM
  go_wp2_with fail
  obtain ⟨W1, hW1⟩ : ∃ W, W = w1.alloc (.cells #[.slice z1 L1.length e1, .slice z2 L2.length e2] 44) := ⟨_, rfl⟩
  rw [← hW1] at HM ⊢
  clear hW1 hx0 hx1 hn0 W0
  obtain ⟨X, hX⟩ : ∃ X, X = w1.heap.size := ⟨_, rfl⟩
  rw [← hX] at HM ⊢
  clear hX w1
  refine (specIsValidMachineA y1 q1 L1 y2 q2 L2 W1 h1 h2 ((HO1.out.srcLater HM.out.bl).at (Nat.le_refl _)) ((HO2.out.srcLater HM.out.bl).at (Nat.le_refl _))).mono ?_
  rw [hm.out]
  rintro e w2 ⟨rfl, hb2⟩
  have HM2 := Lib.hid (HM.out.later hb2)
  clear hb2 HM W1
  obtain ⟨hX, sz, m0, m1, p0, p1, p2, p3, p4, p5, a0, a1, r0, r1, x0, x1, f2, f3, fx, -, -, -, -⟩ := HM2.out
  go_wp2_with fail
  have jv := specIsValidOp c s k o d v w2
  unfold opV at jv
  refine jv.mono ?_
  rw [hv.out]
  rintro e w3 ⟨rfl, hb3⟩
  have HM3 := Lib.hid (HM2.out.later hb3)
  clear hb3 HM2 jv hX sz m0 m1 p0 p1 p2 p3 p4 p5 a0 a1 r0 r1 x0 x1 f2 f3 fx
  obtain ⟨hX, sz, m0, m1, p0, p1, p2, p3, p4, p5, a0, a1, r0, r1, x0, x1, f2, f3, fx, -, -, -, -⟩ := HM3.out
  clear w2
  go_wp2_with fail
  have js := specSessionOf b1 b2 _ _ L1 L2 c w3 h1 h2 (HO1.out.later HM3.out.bl) (HO2.out.later HM3.out.bl)
  rw [hs.out, hh.out] at js
  unfold sessV at js
  simp only at js
  refine js.mono ?_
  rintro e w4 ⟨rfl, hb4⟩
  have HM4 := Lib.hid (HM3.out.later hb4)
  have HM5 := Lib.hid (HM4.out.later ((Below.refl w4.heap.size w4).alloc (Nat.le_refl _) (.cells #[.int .i64 l1, .int .i64 l2, .bool l3, .int .i64 l4] 98)))
  have HSX := Lib.hid (show X < w4.heap.size by have := HM4.out.sz; omega)
  clear hb4 HM3 js hX sz m0 m1 p0 p1 p2 p3 p4 p5 a0 a1 r0 r1 x0 x1 f2 f3 fx
  obtain ⟨hX, sz, m0, m1, p0, p1, p2, p3, p4, p5, a0, a1, r0, r1, x0, x1, f2, f3, fx, -, -, -, -⟩ := HM5.out
  clear w3
  go_wp2_with fail
  refine bodyPost_ret (v := .tuple #[.agg #[.slice z1 L1.length e1, .slice z2 L2.length e2], .agg #[.bool false, .int .i64 0], .bool false]) (by simp [results, Tryz.results105, go_sem, a0, a1, r0, r1]) rfl ⟨_, _, rfl, (midS_end HM5.out _ _ _ _).1, (midS_end HM5.out _ _ _ _).2.1, (midS_end HM5.out _ _ _ _).2.2⟩
end Go.Proofs.YtgjebjoaemeeoaaGreatDoor.kit
