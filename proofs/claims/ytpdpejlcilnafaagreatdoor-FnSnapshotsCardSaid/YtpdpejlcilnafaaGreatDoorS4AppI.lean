/-
  Chapter 4: impl's ApplyOp.
-/
import Derived.Test.YtpdpejlcilnafaaGreatDoorS4Tab
import Derived.Test.YtpdpejlcilnafaaGreatDoorS4CopyI
import Derived.Test.YtpdpejlcilnafaaGreatDoorS4Sort
import Derived.Test.YtpdpejlcilnafaaGreatDoorS4Read
namespace Go.Proofs.YtpdpejlcilnafaaGreatDoor.kit
open Go.ChangeShapes Go.WideShapes Go.ChangeAt Go.RowKit Go.Maps
set_option linter.unusedVariables false

/-- what stands when the copy is made -/
structure Mid (B : Nat) (w W : World) (u1 u2 : Value) (c s k o d v : Int) (L1 : List Int) (L2 : List Sess) : Prop where
  sz : B + 4 ≤ W.heap.size
  m0 : W.cell? ⟨B, 0, none⟩ = some u1
  m1 : W.cell? ⟨B, 1, none⟩ = some u2
  p0 : W.cell? ⟨B + 1, 0, none⟩ = some (.int .i64 c)
  p1 : W.cell? ⟨B + 1, 1, none⟩ = some (.int .i64 s)
  p2 : W.cell? ⟨B + 1, 2, none⟩ = some (.int .i64 k)
  p3 : W.cell? ⟨B + 1, 3, none⟩ = some (.int .i64 o)
  p4 : W.cell? ⟨B + 1, 4, none⟩ = some (.int .i64 d)
  p5 : W.cell? ⟨B + 1, 5, none⟩ = some (.int .i64 v)
  a0 : W.cell? ⟨B + 1 + 1, 0, none⟩ = some (.slice none 0 0)
  a1 : W.cell? ⟨B + 1 + 1, 1, none⟩ = some (.slice none 0 0)
  r0 : W.cell? ⟨B + 1 + 1 + 1, 0, none⟩ = some (.bool false)
  r1 : W.cell? ⟨B + 1 + 1 + 1, 1, none⟩ = some (.int .i64 0)
  f0 : ∀ q, W.frozen? ⟨B, q, none⟩ = false
  f2 : ∀ q, W.frozen? ⟨B + 1 + 1, q, none⟩ = false
  f3 : ∀ q, W.frozen? ⟨B + 1 + 1 + 1, q, none⟩ = false
  o1 : OwnI (B + 4) W u1 L1
  o2 : OwnS (B + 4) W u2 L2
  bl : Below B w W
/-- .. and stands behind what leaves the old blocks alone -/
theorem Mid.later {B : Nat} {w W W' : World} {u1 u2 : Value} {c s k o d v : Int} {L1 : List Int} {L2 : List Sess} (h : Mid B w W u1 u2 c s k o d v L1 L2) (hb : Below W.heap.size W W') : Mid B w W' u1 u2 c s k o d v L1 L2 := by
  have hs := h.sz
  have hc : ∀ b q, b < B + 4 → W'.cell? ⟨b, q, none⟩ = W.cell? ⟨b, q, none⟩ := fun b q hq => hb.cell (p := ⟨b, q, none⟩) (by show b < W.heap.size; omega)
  have hf : ∀ b q, b < B + 4 → W'.frozen? ⟨b, q, none⟩ = W.frozen? ⟨b, q, none⟩ := fun b q hq => hb.frozen (p := ⟨b, q, none⟩) (by show b < W.heap.size; omega)
  exact { sz := Nat.le_trans h.sz hb.size, m0 := (hc _ _ (by omega)).trans h.m0, m1 := (hc _ _ (by omega)).trans h.m1, p0 := (hc _ _ (by omega)).trans h.p0, p1 := (hc _ _ (by omega)).trans h.p1, p2 := (hc _ _ (by omega)).trans h.p2,
          p3 := (hc _ _ (by omega)).trans h.p3, p4 := (hc _ _ (by omega)).trans h.p4, p5 := (hc _ _ (by omega)).trans h.p5, a0 := (hc _ _ (by omega)).trans h.a0, a1 := (hc _ _ (by omega)).trans h.a1, r0 := (hc _ _ (by omega)).trans h.r0, r1 := (hc _ _ (by omega)).trans h.r1,
          f0 := fun q => (hf _ _ (by omega)).trans (h.f0 q), f2 := fun q => (hf _ _ (by omega)).trans (h.f2 q), f3 := fun q => (hf _ _ (by omega)).trans (h.f3 q), o1 := h.o1.later hb, o2 := h.o2.later hb, bl := h.bl.trans (hb.mono (by omega)) }
theorem mid_start {w W0 w1 : World} {a1 a2 u1 u2 : Value} {c s k o d v : Int} {L1 : List Int} {L2 : List Sess} (hs0 : W0.heap.size = w.heap.size + 1 + 1 + 1 + 1) (hb0 : Below w.heap.size w W0)
    (hx : W0.cell? ⟨w.heap.size, 0, none⟩ = some a1 ∧ W0.cell? ⟨w.heap.size, 1, none⟩ = some a2)
    (hp : (W0.cell? ⟨w.heap.size + 1, 0, none⟩ = some (.int .i64 c) ∧ W0.cell? ⟨w.heap.size + 1, 1, none⟩ = some (.int .i64 s) ∧ W0.cell? ⟨w.heap.size + 1, 2, none⟩ = some (.int .i64 k)) ∧ W0.cell? ⟨w.heap.size + 1, 3, none⟩ = some (.int .i64 o) ∧ W0.cell? ⟨w.heap.size + 1, 4, none⟩ = some (.int .i64 d) ∧ W0.cell? ⟨w.heap.size + 1, 5, none⟩ = some (.int .i64 v))
    (hr : W0.cell? ⟨w.heap.size + 1 + 1, 0, none⟩ = some (.slice none 0 0) ∧ W0.cell? ⟨w.heap.size + 1 + 1, 1, none⟩ = some (.slice none 0 0) ∧ W0.cell? ⟨w.heap.size + 1 + 1 + 1, 0, none⟩ = some (.bool false) ∧ W0.cell? ⟨w.heap.size + 1 + 1 + 1, 1, none⟩ = some (.int .i64 0))
    (hf : (∀ q, W0.frozen? ⟨w.heap.size, q, none⟩ = false) ∧ (∀ q, W0.frozen? ⟨w.heap.size + 1 + 1, q, none⟩ = false) ∧ ∀ q, W0.frozen? ⟨w.heap.size + 1 + 1 + 1, q, none⟩ = false)
    (hb1 : Below W0.heap.size W0 w1) (ho1 : OwnI W0.heap.size w1 u1 L1) (ho2 : OwnS W0.heap.size w1 u2 L2) :
    Mid w.heap.size w ((w1.setCell ⟨w.heap.size, 0, none⟩ u1).setCell ⟨w.heap.size, 1, none⟩ u2) u1 u2 c s k o d v L1 L2 := by
  have hz := hb1.size
  have hsz : ((w1.setCell ⟨w.heap.size, 0, none⟩ u1).setCell ⟨w.heap.size, 1, none⟩ u2).heap.size = w1.heap.size := by simp
  have hc : ∀ b q, b < w.heap.size + 4 → w1.cell? ⟨b, q, none⟩ = W0.cell? ⟨b, q, none⟩ := fun b q hq => hb1.cell (p := ⟨b, q, none⟩) (by show b < W0.heap.size; omega)
  have hg : ∀ b q, b < w.heap.size + 4 → w1.frozen? ⟨b, q, none⟩ = W0.frozen? ⟨b, q, none⟩ := fun b q hq => hb1.frozen (p := ⟨b, q, none⟩) (by show b < W0.heap.size; omega)
  have hoth : ∀ b q, b ≠ w.heap.size → ((w1.setCell ⟨w.heap.size, 0, none⟩ u1).setCell ⟨w.heap.size, 1, none⟩ u2).cell? ⟨b, q, none⟩ = w1.cell? ⟨b, q, none⟩ := fun b q hb => by
    rw [World.cell?_of_block (a := ⟨b, q, none⟩) ((Below.heap_setCell _ _ _ _ (by simpa using hb)).trans (Below.heap_setCell _ _ _ _ (by simpa using hb)))]
  have hx0 := (hc w.heap.size 0 (by omega)).trans hx.1
  have hx1 := (hc w.heap.size 1 (by omega)).trans hx.2
  have hfr : ∀ b q, ((w1.setCell ⟨w.heap.size, 0, none⟩ u1).setCell ⟨w.heap.size, 1, none⟩ u2).frozen? ⟨b, q, none⟩ = w1.frozen? ⟨b, q, none⟩ := fun b q => by go_simp
  exact { sz := by rw [hsz]; omega, m0 := by go_simp, m1 := by go_simp,
          p0 := (hoth _ _ (by omega)).trans ((hc _ _ (by omega)).trans hp.1.1), p1 := (hoth _ _ (by omega)).trans ((hc _ _ (by omega)).trans hp.1.2.1), p2 := (hoth _ _ (by omega)).trans ((hc _ _ (by omega)).trans hp.1.2.2),
          p3 := (hoth _ _ (by omega)).trans ((hc _ _ (by omega)).trans hp.2.1), p4 := (hoth _ _ (by omega)).trans ((hc _ _ (by omega)).trans hp.2.2.1), p5 := (hoth _ _ (by omega)).trans ((hc _ _ (by omega)).trans hp.2.2.2),
          a0 := (hoth _ _ (by omega)).trans ((hc _ _ (by omega)).trans hr.1), a1 := (hoth _ _ (by omega)).trans ((hc _ _ (by omega)).trans hr.2.1), r0 := (hoth _ _ (by omega)).trans ((hc _ _ (by omega)).trans hr.2.2.1), r1 := (hoth _ _ (by omega)).trans ((hc _ _ (by omega)).trans hr.2.2.2),
          f0 := fun q => (hfr _ _).trans ((hg _ _ (by omega)).trans (hf.1 q)), f2 := fun q => (hfr _ _).trans ((hg _ _ (by omega)).trans (hf.2.1 q)), f3 := fun q => (hfr _ _).trans ((hg _ _ (by omega)).trans (hf.2.2 q)),
          o1 := ((ho1.setBelow (a := ⟨w.heap.size, 0, none⟩) (by show w.heap.size < W0.heap.size; omega) _).setBelow (a := ⟨w.heap.size, 1, none⟩) (by show w.heap.size < W0.heap.size; omega) _).mono (by omega),
          o2 := ((ho2.setBelow (a := ⟨w.heap.size, 0, none⟩) (by show w.heap.size < W0.heap.size; omega) _).setBelow (a := ⟨w.heap.size, 1, none⟩) (by show w.heap.size < W0.heap.size; omega) _).mono (by omega),
          bl := ((hb0.trans (hb1.mono (by omega))).setCell (p := ⟨w.heap.size, 0, none⟩) (Nat.le_refl _) _).setCell (p := ⟨w.heap.size, 1, none⟩) (Nat.le_refl _) _ }
theorem mid_end {B : Nat} {w W : World} {u1 u2 : Value} {c s k o d v : Int} {L1 : List Int} {L2 : List Sess} (h : Mid B w W u1 u2 c s k o d v L1 L2) (x0 x1 x2 x3 : Value) :
    OwnI B ((((W.setCell ⟨B + 1 + 1, 0, none⟩ x0).setCell ⟨B + 1 + 1, 1, none⟩ x1).setCell ⟨B + 1 + 1 + 1, 0, none⟩ x2).setCell ⟨B + 1 + 1 + 1, 1, none⟩ x3) u1 L1 ∧
    OwnS B ((((W.setCell ⟨B + 1 + 1, 0, none⟩ x0).setCell ⟨B + 1 + 1, 1, none⟩ x1).setCell ⟨B + 1 + 1 + 1, 0, none⟩ x2).setCell ⟨B + 1 + 1 + 1, 1, none⟩ x3) u2 L2 ∧
    Below B w ((((W.setCell ⟨B + 1 + 1, 0, none⟩ x0).setCell ⟨B + 1 + 1, 1, none⟩ x1).setCell ⟨B + 1 + 1 + 1, 0, none⟩ x2).setCell ⟨B + 1 + 1 + 1, 1, none⟩ x3) := by
  refine ⟨?_, ?_, ?_⟩
  · exact ((((h.o1.setBelow (a := ⟨B + 1 + 1, 0, none⟩) (by show B + 1 + 1 < B + 4; omega) _).setBelow (a := ⟨B + 1 + 1, 1, none⟩) (by show B + 1 + 1 < B + 4; omega) _).setBelow (a := ⟨B + 1 + 1 + 1, 0, none⟩) (by show B + 1 + 1 + 1 < B + 4; omega) _).setBelow (a := ⟨B + 1 + 1 + 1, 1, none⟩) (by show B + 1 + 1 + 1 < B + 4; omega) _).mono (by omega)
  · exact ((((h.o2.setBelow (a := ⟨B + 1 + 1, 0, none⟩) (by show B + 1 + 1 < B + 4; omega) _).setBelow (a := ⟨B + 1 + 1, 1, none⟩) (by show B + 1 + 1 < B + 4; omega) _).setBelow (a := ⟨B + 1 + 1 + 1, 0, none⟩) (by show B + 1 + 1 + 1 < B + 4; omega) _).setBelow (a := ⟨B + 1 + 1 + 1, 1, none⟩) (by show B + 1 + 1 + 1 < B + 4; omega) _).mono (by omega)
  · exact (((h.bl.setCell (p := ⟨B + 1 + 1, 0, none⟩) (by show B ≤ B + 1 + 1; omega) _).setCell (p := ⟨B + 1 + 1, 1, none⟩) (by show B ≤ B + 1 + 1; omega) _).setCell (p := ⟨B + 1 + 1 + 1, 0, none⟩) (by show B ≤ B + 1 + 1 + 1; omega) _).setCell (p := ⟨B + 1 + 1 + 1, 1, none⟩) (by show B ≤ B + 1 + 1 + 1; omega) _
/-- a look-up in the table -/
theorem look_sess (w : World) {ops : Array Oper} {rest : List Oper} {o : Oper} {a : Act} {Q : Exit → Act → World → Prop} (hg : o.guard = none) (m x : Operand) (hop : o.op = Op.lookup 152 m x true)
    (B n : Nat) (L : List Sess) (c : Int) (hm : a.eval m = .map (some B)) (hown : w.ownsMap Tryz.prog 3 sessElem B n (tab L)) (hx : a.eval x = .int .i64 c) (hc : (Lit.int .i64 c).wf = true) (hnd : (L.map (·.1)).Nodup)
    (hHit : ∀ y1 y2 y3 y4, hasSess L c = true → sessOf L c = (y1, y2, y3, y4) → wpList Tryz.prog ops Q rest (a.put o.dst (.tuple #[.agg #[.int .i64 y1, .int .i64 y2, .bool y3, .int .i64 y4], .bool true])) w)
    (hMiss : ∀ y1 y2 y3 y4, hasSess L c = false → wpList Tryz.prog ops Q rest (a.put o.dst (.tuple #[.agg #[.int .i64 y1, .int .i64 y2, .bool y3, .int .i64 y4], .bool false])) w) :
    wpList Tryz.prog ops Q (o :: rest) a w := by
  refine wpList_lookup_own_ok w hg m x 152 hop 3 120 keyInt Tryz.underlying152 sessElem (z := sessV z0) (by have := Tryz.zeroValue120 w; exact this) (sessD z0) [] (sessElem_mk z0) B n (tab L) hm hown (.int .i64 c) (.int .i64 c) hx (keyOf_int_mk Tryz.underlying3 hc) ?_
  intro v ps hv
  rw [has_tab]
  obtain ⟨y, rfl, hy⟩ := sessElem_inv hv
  cases h : hasSess L c with
  | true =>
    rw [atKey_tab hnd h] at hy
    have e : y = sessOf L c := (sessD_inj (congrArg Prod.fst hy)).symm
    obtain ⟨y1, y2, y3, y4⟩ := y
    exact hHit y1 y2 y3 y4 h e.symm
  | false =>
    obtain ⟨y1, y2, y3, y4⟩ := y
    exact hMiss y1 y2 y3 y4 h
set_option maxRecDepth 100000 in
set_option maxHeartbeats 8000000 in
theorem appI_noMs (v1 v2 : Value) (L1 : List Int) (L2 : List Sess) (c s k o d v : Int) (w : World) (h1 : L1.length ≤ 4194304) (h2 : L2.length ≤ 4194304) (o1 : SrcI w.heap.size w v1 L1) (o2 : SrcS w.heap.size w v2 L2) (hm : Hid (decide (MOk L1 L2) = false)) :
    Calls Tryz.prog 70 #[.agg #[v1, v2], opV c s k o d v] w fun e w' => ∃ u1 u2, e = .returned (.tuple #[.agg #[u1, u2], .agg #[.bool false, .int .i64 0], .bool false]) ∧ OwnI w.heap.size w' u1 L1 ∧ OwnS w.heap.size w' u2 L2 ∧ Below w.heap.size w w' := by
  obtain ⟨y1, q1, rfl⟩ := o1.shape
  obtain ⟨y2, q2, rfl⟩ := o2.shape
  have HO1 := Lib.hid o1
  have HO2 := Lib.hid o2
  clear o1 o2
  go_enter Tryz.func70, Tryz.ntmps70
  unfold opV
  go_wp2_with fail
  obtain ⟨W0, hW0⟩ : ∃ W, W = (((w.alloc (.cells #[.slice y1 L1.length q1, .slice y2 L2.length q2] 30)).alloc (.cells #[.int .i64 c, .int .i64 s, .int .i64 k, .int .i64 o, .int .i64 d, .int .i64 v] 102)).alloc (.cells #[.slice none 0 0, .slice none 0 0] 30)).alloc (.cells #[.bool false, .int .i64 0] 113) := ⟨_, rfl⟩
  rw [← hW0]
  have hs0 : W0.heap.size = w.heap.size + 1 + 1 + 1 + 1 := by rw [hW0]; simp
  have hb0 : Below w.heap.size w W0 := by rw [hW0]; exact ((((Below.refl _ _).alloc (Nat.le_refl _) _).alloc (by simp) _).alloc (by simp; omega) _).alloc (by simp; omega) _
  have hx : W0.cell? ⟨w.heap.size, 0, none⟩ = some (.slice y1 L1.length q1) ∧ W0.cell? ⟨w.heap.size, 1, none⟩ = some (.slice y2 L2.length q2) := by rw [hW0]; constructor <;> go_simp
  have hp : (W0.cell? ⟨w.heap.size + 1, 0, none⟩ = some (.int .i64 c) ∧ W0.cell? ⟨w.heap.size + 1, 1, none⟩ = some (.int .i64 s) ∧ W0.cell? ⟨w.heap.size + 1, 2, none⟩ = some (.int .i64 k)) ∧ W0.cell? ⟨w.heap.size + 1, 3, none⟩ = some (.int .i64 o) ∧ W0.cell? ⟨w.heap.size + 1, 4, none⟩ = some (.int .i64 d) ∧ W0.cell? ⟨w.heap.size + 1, 5, none⟩ = some (.int .i64 v) := by rw [hW0]; refine ⟨⟨?_, ?_, ?_⟩, ?_, ?_, ?_⟩ <;> go_simp
  have hr : W0.cell? ⟨w.heap.size + 1 + 1, 0, none⟩ = some (.slice none 0 0) ∧ W0.cell? ⟨w.heap.size + 1 + 1, 1, none⟩ = some (.slice none 0 0) ∧ W0.cell? ⟨w.heap.size + 1 + 1 + 1, 0, none⟩ = some (.bool false) ∧ W0.cell? ⟨w.heap.size + 1 + 1 + 1, 1, none⟩ = some (.int .i64 0) := by rw [hW0]; refine ⟨?_, ?_, ?_, ?_⟩ <;> go_simp
  have hf : (∀ q, W0.frozen? ⟨w.heap.size, q, none⟩ = false) ∧ (∀ q, W0.frozen? ⟨w.heap.size + 1 + 1, q, none⟩ = false) ∧ ∀ q, W0.frozen? ⟨w.heap.size + 1 + 1 + 1, q, none⟩ = false := by rw [hW0]; refine ⟨fun q => ?_, fun q => ?_, fun q => ?_⟩ <;> go_simp
  clear hW0
  refine (copyMachineS _ _ L1 L2 W0 h1 h2 (HO1.out.srcLater hb0) (HO2.out.srcLater hb0)).mono ?_
  rintro e w1 ⟨u1, u2, rfl, ho1, ho2, hb1⟩
  obtain ⟨z1, e1, rfl⟩ := ho1.shape
  obtain ⟨z2, e2, rfl⟩ := ho2.shape
  have hM : Mid w.heap.size w ((w1.setCell ⟨w.heap.size, 0, none⟩ (.slice z1 L1.length e1)).setCell ⟨w.heap.size, 1, none⟩ (.slice z2 L2.length e2)) (.slice z1 L1.length e1) (.slice z2 L2.length e2) c s k o d v L1 L2 := mid_start hs0 hb0 hx hp hr hf hb1 ho1 ho2
  have hx0 := (hb1.cell (p := ⟨w.heap.size, 0, none⟩) (by show w.heap.size < W0.heap.size; omega)).trans hx.1
  have hx1 := (hb1.cell (p := ⟨w.heap.size, 1, none⟩) (by show w.heap.size < W0.heap.size; omega)).trans hx.2
  have hxf := fun q => (hb1.frozen (p := ⟨w.heap.size, q, none⟩) (by show w.heap.size < W0.heap.size; omega)).trans (hf.1 q)
  have HM := Lib.hid hM
  clear hs0 hb0 hx hp hr hf hb1 ho1 ho2 hM HO1 HO2
  go_wp2_with fail
  generalize ((w1.setCell ⟨w.heap.size, 0, none⟩ (.slice z1 L1.length e1)).setCell ⟨w.heap.size, 1, none⟩ (.slice z2 L2.length e2)) = W1 at HM ⊢
  clear hx0 hx1 hxf w1 W0
  refine (implIsValidMachine (w.heap.size + 4) (w.heap.size + 4) _ _ L1 L2 W1 h1 h2 HM.out.o1 HM.out.o2).mono ?_
  rw [hm.out]
  rintro e w2 ⟨rfl, hb2⟩
  have HM2 := Lib.hid (HM.out.later hb2)
  clear hb2 HM W1
  obtain ⟨sz, m0, m1, p0, p1, p2, p3, p4, p5, a0, a1, r0, r1, f0, f2, f3, -, -, -⟩ := HM2.out
  go_wp2_with fail
  refine bodyPost_ret (v := .tuple #[.agg #[.slice z1 L1.length e1, .slice z2 L2.length e2], .agg #[.bool false, .int .i64 0], .bool false]) (by simp [results, Tryz.results70, go_sem, a0, a1, r0, r1]) rfl ⟨_, _, rfl, (mid_end HM2.out _ _ _ _).1, (mid_end HM2.out _ _ _ _).2.1, (mid_end HM2.out _ _ _ _).2.2⟩
theorem appI_noM (b1 b2 : Nat) (v1 v2 : Value) (L1 : List Int) (L2 : List Sess) (c s k o d v : Int) (w : World) (h1 : L1.length ≤ 4194304) (h2 : L2.length ≤ 4194304) (o1 : OwnI b1 w v1 L1) (o2 : OwnS b2 w v2 L2) (hm : Hid (decide (MOk L1 L2) = false)) :
    Calls Tryz.prog 70 #[.agg #[v1, v2], opV c s k o d v] w fun e w' => ∃ u1 u2, e = .returned (.tuple #[.agg #[u1, u2], .agg #[.bool false, .int .i64 0], .bool false]) ∧ OwnI w.heap.size w' u1 L1 ∧ OwnS w.heap.size w' u2 L2 ∧ Below w.heap.size w w' := appI_noMs v1 v2 L1 L2 c s k o d v w h1 h2 (SrcI.own o1) (SrcS.own o2) hm
set_option maxRecDepth 100000 in
set_option maxHeartbeats 8000000 in
theorem appI_noO (b1 b2 : Nat) (v1 v2 : Value) (L1 : List Int) (L2 : List Sess) (c s k o d v : Int) (w : World) (h1 : L1.length ≤ 4194304) (h2 : L2.length ≤ 4194304) (o1 : OwnI b1 w v1 L1) (o2 : OwnS b2 w v2 L2) (hm : Hid (decide (MOk L1 L2) = true)) (hv : Hid (okOp c s k o d v = false)) :
    Calls Tryz.prog 70 #[.agg #[v1, v2], opV c s k o d v] w fun e w' => ∃ u1 u2, e = .returned (.tuple #[.agg #[u1, u2], .agg #[.bool false, .int .i64 0], .bool false]) ∧ OwnI w.heap.size w' u1 L1 ∧ OwnS w.heap.size w' u2 L2 ∧ Below w.heap.size w w' := by
  obtain ⟨y1, q1, rfl⟩ := o1.shape
  obtain ⟨y2, q2, rfl⟩ := o2.shape
  have HO1 := Lib.hid o1
  have HO2 := Lib.hid o2
  clear o1 o2
  go_enter Tryz.func70, Tryz.ntmps70
  unfold opV
  go_wp2_with fail
  obtain ⟨W0, hW0⟩ : ∃ W, W = (((w.alloc (.cells #[.slice y1 L1.length q1, .slice y2 L2.length q2] 30)).alloc (.cells #[.int .i64 c, .int .i64 s, .int .i64 k, .int .i64 o, .int .i64 d, .int .i64 v] 102)).alloc (.cells #[.slice none 0 0, .slice none 0 0] 30)).alloc (.cells #[.bool false, .int .i64 0] 113) := ⟨_, rfl⟩
  rw [← hW0]
  have hs0 : W0.heap.size = w.heap.size + 1 + 1 + 1 + 1 := by rw [hW0]; simp
  have hb0 : Below w.heap.size w W0 := by rw [hW0]; exact ((((Below.refl _ _).alloc (Nat.le_refl _) _).alloc (by simp) _).alloc (by simp; omega) _).alloc (by simp; omega) _
  have hx : W0.cell? ⟨w.heap.size, 0, none⟩ = some (.slice y1 L1.length q1) ∧ W0.cell? ⟨w.heap.size, 1, none⟩ = some (.slice y2 L2.length q2) := by rw [hW0]; constructor <;> go_simp
  have hp : (W0.cell? ⟨w.heap.size + 1, 0, none⟩ = some (.int .i64 c) ∧ W0.cell? ⟨w.heap.size + 1, 1, none⟩ = some (.int .i64 s) ∧ W0.cell? ⟨w.heap.size + 1, 2, none⟩ = some (.int .i64 k)) ∧ W0.cell? ⟨w.heap.size + 1, 3, none⟩ = some (.int .i64 o) ∧ W0.cell? ⟨w.heap.size + 1, 4, none⟩ = some (.int .i64 d) ∧ W0.cell? ⟨w.heap.size + 1, 5, none⟩ = some (.int .i64 v) := by rw [hW0]; refine ⟨⟨?_, ?_, ?_⟩, ?_, ?_, ?_⟩ <;> go_simp
  have hr : W0.cell? ⟨w.heap.size + 1 + 1, 0, none⟩ = some (.slice none 0 0) ∧ W0.cell? ⟨w.heap.size + 1 + 1, 1, none⟩ = some (.slice none 0 0) ∧ W0.cell? ⟨w.heap.size + 1 + 1 + 1, 0, none⟩ = some (.bool false) ∧ W0.cell? ⟨w.heap.size + 1 + 1 + 1, 1, none⟩ = some (.int .i64 0) := by rw [hW0]; refine ⟨?_, ?_, ?_, ?_⟩ <;> go_simp
  have hf : (∀ q, W0.frozen? ⟨w.heap.size, q, none⟩ = false) ∧ (∀ q, W0.frozen? ⟨w.heap.size + 1 + 1, q, none⟩ = false) ∧ ∀ q, W0.frozen? ⟨w.heap.size + 1 + 1 + 1, q, none⟩ = false := by rw [hW0]; refine ⟨fun q => ?_, fun q => ?_, fun q => ?_⟩ <;> go_simp
  clear hW0
  refine (copyMachineS _ _ L1 L2 W0 h1 h2 (HO1.out.srcLater hb0) (HO2.out.srcLater hb0)).mono ?_
  rintro e w1 ⟨u1, u2, rfl, ho1, ho2, hb1⟩
  obtain ⟨z1, e1, rfl⟩ := ho1.shape
  obtain ⟨z2, e2, rfl⟩ := ho2.shape
  have hM : Mid w.heap.size w ((w1.setCell ⟨w.heap.size, 0, none⟩ (.slice z1 L1.length e1)).setCell ⟨w.heap.size, 1, none⟩ (.slice z2 L2.length e2)) (.slice z1 L1.length e1) (.slice z2 L2.length e2) c s k o d v L1 L2 := mid_start hs0 hb0 hx hp hr hf hb1 ho1 ho2
  have hx0 := (hb1.cell (p := ⟨w.heap.size, 0, none⟩) (by show w.heap.size < W0.heap.size; omega)).trans hx.1
  have hx1 := (hb1.cell (p := ⟨w.heap.size, 1, none⟩) (by show w.heap.size < W0.heap.size; omega)).trans hx.2
  have hxf := fun q => (hb1.frozen (p := ⟨w.heap.size, q, none⟩) (by show w.heap.size < W0.heap.size; omega)).trans (hf.1 q)
  have HM := Lib.hid hM
  clear hs0 hb0 hx hp hr hf hb1 ho1 ho2 hM HO1 HO2
  go_wp2_with fail
  generalize ((w1.setCell ⟨w.heap.size, 0, none⟩ (.slice z1 L1.length e1)).setCell ⟨w.heap.size, 1, none⟩ (.slice z2 L2.length e2)) = W1 at HM ⊢
  clear hx0 hx1 hxf w1 W0
  refine (implIsValidMachine (w.heap.size + 4) (w.heap.size + 4) _ _ L1 L2 W1 h1 h2 HM.out.o1 HM.out.o2).mono ?_
  rw [hm.out]
  rintro e w2 ⟨rfl, hb2⟩
  have HM2 := Lib.hid (HM.out.later hb2)
  clear hb2 HM W1
  obtain ⟨sz, m0, m1, p0, p1, p2, p3, p4, p5, a0, a1, r0, r1, f0, f2, f3, -, -, -⟩ := HM2.out
  go_wp2_with fail
  have jv := implIsValidOp c s k o d v w2
  unfold opV at jv
  refine jv.mono ?_
  rw [hv.out]
  rintro e w3 ⟨rfl, hb3⟩
  have HM3 := Lib.hid (HM2.out.later hb3)
  clear hb3 HM2 jv sz m0 m1 p0 p1 p2 p3 p4 p5 a0 a1 r0 r1 f0 f2 f3
  obtain ⟨sz, m0, m1, p0, p1, p2, p3, p4, p5, a0, a1, r0, r1, f0, f2, f3, -, -, -⟩ := HM3.out
  clear w2
  go_wp2_with fail
  refine bodyPost_ret (v := .tuple #[.agg #[.slice z1 L1.length e1, .slice z2 L2.length e2], .agg #[.bool false, .int .i64 0], .bool false]) (by simp [results, Tryz.results70, go_sem, a0, a1, r0, r1]) rfl ⟨_, _, rfl, (mid_end HM3.out _ _ _ _).1, (mid_end HM3.out _ _ _ _).2.1, (mid_end HM3.out _ _ _ _).2.2⟩
set_option maxRecDepth 100000 in
set_option maxHeartbeats 8000000 in
theorem appI_known (b1 b2 : Nat) (v1 v2 : Value) (L1 : List Int) (L2 : List Sess) (c s k o d v : Int) (w : World) (h1 : L1.length ≤ 4194304) (h2 : L2.length ≤ 4194304) (o1 : OwnI b1 w v1 L1) (o2 : OwnS b2 w v2 L2) (hm : Hid (decide (MOk L1 L2) = true)) (hv : Hid (okOp c s k o d v = true))
    (hw : Hid (wfC L2)) (hc : Hid ((Lit.int .i64 c).wf = true)) (hnd : Hid ((L2.map (·.1)).Nodup)) (l1 l2 : Int) (l3 : Bool) (l4 : Int) (hh : Hid (hasSess L2 c = true)) (hs : Hid (sessOf L2 c = (l1, l2, l3, l4))) (hgt : decide (l2 > s) = true) :
    Calls Tryz.prog 70 #[.agg #[v1, v2], opV c s k o d v] w fun e w' => ∃ u1 u2, e = .returned (.tuple #[.agg #[u1, u2], .agg #[.bool false, .int .i64 0], .bool false]) ∧ OwnI w.heap.size w' u1 L1 ∧ OwnS w.heap.size w' u2 L2 ∧ Below w.heap.size w w' := by
  obtain ⟨y1, q1, rfl⟩ := o1.shape
  obtain ⟨y2, q2, rfl⟩ := o2.shape
  have HO1 := Lib.hid o1
  have HO2 := Lib.hid o2
  clear o1 o2
  go_enter Tryz.func70, Tryz.ntmps70
  unfold opV
  go_wp2_with fail
  obtain ⟨W0, hW0⟩ : ∃ W, W = (((w.alloc (.cells #[.slice y1 L1.length q1, .slice y2 L2.length q2] 30)).alloc (.cells #[.int .i64 c, .int .i64 s, .int .i64 k, .int .i64 o, .int .i64 d, .int .i64 v] 102)).alloc (.cells #[.slice none 0 0, .slice none 0 0] 30)).alloc (.cells #[.bool false, .int .i64 0] 113) := ⟨_, rfl⟩
  rw [← hW0]
  have hs0 : W0.heap.size = w.heap.size + 1 + 1 + 1 + 1 := by rw [hW0]; simp
  have hb0 : Below w.heap.size w W0 := by rw [hW0]; exact ((((Below.refl _ _).alloc (Nat.le_refl _) _).alloc (by simp) _).alloc (by simp; omega) _).alloc (by simp; omega) _
  have hx : W0.cell? ⟨w.heap.size, 0, none⟩ = some (.slice y1 L1.length q1) ∧ W0.cell? ⟨w.heap.size, 1, none⟩ = some (.slice y2 L2.length q2) := by rw [hW0]; constructor <;> go_simp
  have hp : (W0.cell? ⟨w.heap.size + 1, 0, none⟩ = some (.int .i64 c) ∧ W0.cell? ⟨w.heap.size + 1, 1, none⟩ = some (.int .i64 s) ∧ W0.cell? ⟨w.heap.size + 1, 2, none⟩ = some (.int .i64 k)) ∧ W0.cell? ⟨w.heap.size + 1, 3, none⟩ = some (.int .i64 o) ∧ W0.cell? ⟨w.heap.size + 1, 4, none⟩ = some (.int .i64 d) ∧ W0.cell? ⟨w.heap.size + 1, 5, none⟩ = some (.int .i64 v) := by rw [hW0]; refine ⟨⟨?_, ?_, ?_⟩, ?_, ?_, ?_⟩ <;> go_simp
  have hr : W0.cell? ⟨w.heap.size + 1 + 1, 0, none⟩ = some (.slice none 0 0) ∧ W0.cell? ⟨w.heap.size + 1 + 1, 1, none⟩ = some (.slice none 0 0) ∧ W0.cell? ⟨w.heap.size + 1 + 1 + 1, 0, none⟩ = some (.bool false) ∧ W0.cell? ⟨w.heap.size + 1 + 1 + 1, 1, none⟩ = some (.int .i64 0) := by rw [hW0]; refine ⟨?_, ?_, ?_, ?_⟩ <;> go_simp
  have hf : (∀ q, W0.frozen? ⟨w.heap.size, q, none⟩ = false) ∧ (∀ q, W0.frozen? ⟨w.heap.size + 1 + 1, q, none⟩ = false) ∧ ∀ q, W0.frozen? ⟨w.heap.size + 1 + 1 + 1, q, none⟩ = false := by rw [hW0]; refine ⟨fun q => ?_, fun q => ?_, fun q => ?_⟩ <;> go_simp
  clear hW0
  refine (copyMachineS _ _ L1 L2 W0 h1 h2 (HO1.out.srcLater hb0) (HO2.out.srcLater hb0)).mono ?_
  rintro e w1 ⟨u1, u2, rfl, ho1, ho2, hb1⟩
  obtain ⟨z1, e1, rfl⟩ := ho1.shape
  obtain ⟨z2, e2, rfl⟩ := ho2.shape
  have hM : Mid w.heap.size w ((w1.setCell ⟨w.heap.size, 0, none⟩ (.slice z1 L1.length e1)).setCell ⟨w.heap.size, 1, none⟩ (.slice z2 L2.length e2)) (.slice z1 L1.length e1) (.slice z2 L2.length e2) c s k o d v L1 L2 := mid_start hs0 hb0 hx hp hr hf hb1 ho1 ho2
  have hx0 := (hb1.cell (p := ⟨w.heap.size, 0, none⟩) (by show w.heap.size < W0.heap.size; omega)).trans hx.1
  have hx1 := (hb1.cell (p := ⟨w.heap.size, 1, none⟩) (by show w.heap.size < W0.heap.size; omega)).trans hx.2
  have hxf := fun q => (hb1.frozen (p := ⟨w.heap.size, q, none⟩) (by show w.heap.size < W0.heap.size; omega)).trans (hf.1 q)
  have HM := Lib.hid hM
  clear hs0 hb0 hx hp hr hf hb1 ho1 ho2 hM HO1 HO2
  go_wp2_with fail
  generalize ((w1.setCell ⟨w.heap.size, 0, none⟩ (.slice z1 L1.length e1)).setCell ⟨w.heap.size, 1, none⟩ (.slice z2 L2.length e2)) = W1 at HM ⊢
  clear hx0 hx1 hxf w1 W0
  refine (implIsValidMachine (w.heap.size + 4) (w.heap.size + 4) _ _ L1 L2 W1 h1 h2 HM.out.o1 HM.out.o2).mono ?_
  rw [hm.out]
  rintro e w2 ⟨rfl, hb2⟩
  have HM2 := Lib.hid (HM.out.later hb2)
  clear hb2 HM W1
  obtain ⟨sz, m0, m1, p0, p1, p2, p3, p4, p5, a0, a1, r0, r1, f0, f2, f3, -, -, -⟩ := HM2.out
  go_wp2_with fail
  have jv := implIsValidOp c s k o d v w2
  unfold opV at jv
  refine jv.mono ?_
  rw [hv.out]
  rintro e w3 ⟨rfl, hb3⟩
  have HM3 := Lib.hid (HM2.out.later hb3)
  clear hb3 HM2 jv sz m0 m1 p0 p1 p2 p3 p4 p5 a0 a1 r0 r1 f0 f2 f3
  obtain ⟨sz, m0, m1, p0, p1, p2, p3, p4, p5, a0, a1, r0, r1, f0, f2, f3, -, -, -⟩ := HM3.out
  clear w2
  go_wp2_with fail
  refine (tableOf (w.heap.size + 4) _ L2 w3 h2 HM3.out.o2 hw.out).mono ?_
  rintro e w4 ⟨T, rfl, hT, hTs, hb4⟩
  have HM4 := Lib.hid (HM3.out.later hb4)
  have HT := Lib.hid hT
  have HTS := Lib.hid (Nat.le_trans sz hTs)
  have HTG1 := Lib.hid (fun g hg => Nat.lt_of_lt_of_le (HM3.out.o1.block g hg).2 hTs)
  have HTG2 := Lib.hid (fun g hg => Nat.lt_of_lt_of_le (HM3.out.o2.block g hg).2 hTs)
  clear hb4 HM3 hT hTs sz m0 m1 p0 p1 p2 p3 p4 p5 a0 a1 r0 r1 f0 f2 f3
  obtain ⟨sz, m0, m1, p0, p1, p2, p3, p4, p5, a0, a1, r0, r1, f0, f2, f3, -, -, -⟩ := HM4.out
  clear w3
  have n0 : w.heap.size ≠ w4.heap.size := by omega
  have n1 : w.heap.size + 1 ≠ w4.heap.size := by omega
  have n2 : w.heap.size + 1 + 1 ≠ w4.heap.size := by omega
  have n3 : w.heap.size + 1 + 1 + 1 ≠ w4.heap.size := by omega
  go_wp2_with (first
    | (at_lookup; refine look_sess _ rfl _ _ rfl T L2.length L2 c rfl HT.out rfl hc.out hnd.out ?_ (fun _ _ _ _ hno => absurd (hno.symm.trans hh.out) (by simp)); intro y1 y2 y3 y4 _ hy; (have hy' := hs.out.symm.trans hy); simp only [Prod.mk.injEq] at hy'; obtain ⟨rfl, rfl, rfl, rfl⟩ := hy'; (have HM5 := Lib.hid (HM4.out.later (show Below w4.heap.size w4 (w4.alloc (.cells #[.int .i64 l1, .int .i64 l2, .bool l3, .int .i64 l4] 120)) from (Below.refl _ _).alloc (Nat.le_refl _) _))); clear sz m0 m1 p0 p1 p2 p3 p4 p5 a0 a1 r0 r1 f0 f2 f3; obtain ⟨sz, m0, m1, p0, p1, p2, p3, p4, p5, a0, a1, r0, r1, f0, f2, f3, -, -, -⟩ := HM5.out)
    | go_in)
  refine bodyPost_ret (v := .tuple #[.agg #[.slice z1 L1.length e1, .slice z2 L2.length e2], .agg #[.bool false, .int .i64 0], .bool false]) (by simp [results, Tryz.results70, go_sem, a0, a1, r0, r1]) rfl ⟨_, _, rfl, (mid_end HM5.out _ _ _ _).1, (mid_end HM5.out _ _ _ _).2.1, (mid_end HM5.out _ _ _ _).2.2⟩
set_option maxRecDepth 100000 in
set_option maxHeartbeats 8000000 in
theorem appI_same (b1 b2 : Nat) (v1 v2 : Value) (L1 : List Int) (L2 : List Sess) (c s k o d v : Int) (w : World) (h1 : L1.length ≤ 4194304) (h2 : L2.length ≤ 4194304) (o1 : OwnI b1 w v1 L1) (o2 : OwnS b2 w v2 L2) (hm : Hid (decide (MOk L1 L2) = true)) (hv : Hid (okOp c s k o d v = true))
    (hw : Hid (wfC L2)) (hc : Hid ((Lit.int .i64 c).wf = true)) (hnd : Hid ((L2.map (·.1)).Nodup)) (l1 l2 : Int) (l3 : Bool) (l4 : Int) (hh : Hid (hasSess L2 c = true)) (hs : Hid (sessOf L2 c = (l1, l2, l3, l4))) (hgt : decide (l2 > s) = false) (heq : (l2 == s) = true) :
    Calls Tryz.prog 70 #[.agg #[v1, v2], opV c s k o d v] w fun e w' => ∃ u1 u2, e = .returned (.tuple #[.agg #[u1, u2], .agg #[.bool l3, .int .i64 l4], .bool true]) ∧ OwnI w.heap.size w' u1 L1 ∧ OwnS w.heap.size w' u2 L2 ∧ Below w.heap.size w w' := by
  obtain ⟨y1, q1, rfl⟩ := o1.shape
  obtain ⟨y2, q2, rfl⟩ := o2.shape
  have HO1 := Lib.hid o1
  have HO2 := Lib.hid o2
  clear o1 o2
  go_enter Tryz.func70, Tryz.ntmps70
  unfold opV
  go_wp2_with fail
  obtain ⟨W0, hW0⟩ : ∃ W, W = (((w.alloc (.cells #[.slice y1 L1.length q1, .slice y2 L2.length q2] 30)).alloc (.cells #[.int .i64 c, .int .i64 s, .int .i64 k, .int .i64 o, .int .i64 d, .int .i64 v] 102)).alloc (.cells #[.slice none 0 0, .slice none 0 0] 30)).alloc (.cells #[.bool false, .int .i64 0] 113) := ⟨_, rfl⟩
  rw [← hW0]
  have hs0 : W0.heap.size = w.heap.size + 1 + 1 + 1 + 1 := by rw [hW0]; simp
  have hb0 : Below w.heap.size w W0 := by rw [hW0]; exact ((((Below.refl _ _).alloc (Nat.le_refl _) _).alloc (by simp) _).alloc (by simp; omega) _).alloc (by simp; omega) _
  have hx : W0.cell? ⟨w.heap.size, 0, none⟩ = some (.slice y1 L1.length q1) ∧ W0.cell? ⟨w.heap.size, 1, none⟩ = some (.slice y2 L2.length q2) := by rw [hW0]; constructor <;> go_simp
  have hp : (W0.cell? ⟨w.heap.size + 1, 0, none⟩ = some (.int .i64 c) ∧ W0.cell? ⟨w.heap.size + 1, 1, none⟩ = some (.int .i64 s) ∧ W0.cell? ⟨w.heap.size + 1, 2, none⟩ = some (.int .i64 k)) ∧ W0.cell? ⟨w.heap.size + 1, 3, none⟩ = some (.int .i64 o) ∧ W0.cell? ⟨w.heap.size + 1, 4, none⟩ = some (.int .i64 d) ∧ W0.cell? ⟨w.heap.size + 1, 5, none⟩ = some (.int .i64 v) := by rw [hW0]; refine ⟨⟨?_, ?_, ?_⟩, ?_, ?_, ?_⟩ <;> go_simp
  have hr : W0.cell? ⟨w.heap.size + 1 + 1, 0, none⟩ = some (.slice none 0 0) ∧ W0.cell? ⟨w.heap.size + 1 + 1, 1, none⟩ = some (.slice none 0 0) ∧ W0.cell? ⟨w.heap.size + 1 + 1 + 1, 0, none⟩ = some (.bool false) ∧ W0.cell? ⟨w.heap.size + 1 + 1 + 1, 1, none⟩ = some (.int .i64 0) := by rw [hW0]; refine ⟨?_, ?_, ?_, ?_⟩ <;> go_simp
  have hf : (∀ q, W0.frozen? ⟨w.heap.size, q, none⟩ = false) ∧ (∀ q, W0.frozen? ⟨w.heap.size + 1 + 1, q, none⟩ = false) ∧ ∀ q, W0.frozen? ⟨w.heap.size + 1 + 1 + 1, q, none⟩ = false := by rw [hW0]; refine ⟨fun q => ?_, fun q => ?_, fun q => ?_⟩ <;> go_simp
  clear hW0
  refine (copyMachineS _ _ L1 L2 W0 h1 h2 (HO1.out.srcLater hb0) (HO2.out.srcLater hb0)).mono ?_
  rintro e w1 ⟨u1, u2, rfl, ho1, ho2, hb1⟩
  obtain ⟨z1, e1, rfl⟩ := ho1.shape
  obtain ⟨z2, e2, rfl⟩ := ho2.shape
  have hM : Mid w.heap.size w ((w1.setCell ⟨w.heap.size, 0, none⟩ (.slice z1 L1.length e1)).setCell ⟨w.heap.size, 1, none⟩ (.slice z2 L2.length e2)) (.slice z1 L1.length e1) (.slice z2 L2.length e2) c s k o d v L1 L2 := mid_start hs0 hb0 hx hp hr hf hb1 ho1 ho2
  have hx0 := (hb1.cell (p := ⟨w.heap.size, 0, none⟩) (by show w.heap.size < W0.heap.size; omega)).trans hx.1
  have hx1 := (hb1.cell (p := ⟨w.heap.size, 1, none⟩) (by show w.heap.size < W0.heap.size; omega)).trans hx.2
  have hxf := fun q => (hb1.frozen (p := ⟨w.heap.size, q, none⟩) (by show w.heap.size < W0.heap.size; omega)).trans (hf.1 q)
  have HM := Lib.hid hM
  clear hs0 hb0 hx hp hr hf hb1 ho1 ho2 hM HO1 HO2
  go_wp2_with fail
  generalize ((w1.setCell ⟨w.heap.size, 0, none⟩ (.slice z1 L1.length e1)).setCell ⟨w.heap.size, 1, none⟩ (.slice z2 L2.length e2)) = W1 at HM ⊢
  clear hx0 hx1 hxf w1 W0
  refine (implIsValidMachine (w.heap.size + 4) (w.heap.size + 4) _ _ L1 L2 W1 h1 h2 HM.out.o1 HM.out.o2).mono ?_
  rw [hm.out]
  rintro e w2 ⟨rfl, hb2⟩
  have HM2 := Lib.hid (HM.out.later hb2)
  clear hb2 HM W1
  obtain ⟨sz, m0, m1, p0, p1, p2, p3, p4, p5, a0, a1, r0, r1, f0, f2, f3, -, -, -⟩ := HM2.out
  go_wp2_with fail
  have jv := implIsValidOp c s k o d v w2
  unfold opV at jv
  refine jv.mono ?_
  rw [hv.out]
  rintro e w3 ⟨rfl, hb3⟩
  have HM3 := Lib.hid (HM2.out.later hb3)
  clear hb3 HM2 jv sz m0 m1 p0 p1 p2 p3 p4 p5 a0 a1 r0 r1 f0 f2 f3
  obtain ⟨sz, m0, m1, p0, p1, p2, p3, p4, p5, a0, a1, r0, r1, f0, f2, f3, -, -, -⟩ := HM3.out
  clear w2
  go_wp2_with fail
  refine (tableOf (w.heap.size + 4) _ L2 w3 h2 HM3.out.o2 hw.out).mono ?_
  rintro e w4 ⟨T, rfl, hT, hTs, hb4⟩
  have HM4 := Lib.hid (HM3.out.later hb4)
  have HT := Lib.hid hT
  have HTS := Lib.hid (Nat.le_trans sz hTs)
  have HTG1 := Lib.hid (fun g hg => Nat.lt_of_lt_of_le (HM3.out.o1.block g hg).2 hTs)
  have HTG2 := Lib.hid (fun g hg => Nat.lt_of_lt_of_le (HM3.out.o2.block g hg).2 hTs)
  clear hb4 HM3 hT hTs sz m0 m1 p0 p1 p2 p3 p4 p5 a0 a1 r0 r1 f0 f2 f3
  obtain ⟨sz, m0, m1, p0, p1, p2, p3, p4, p5, a0, a1, r0, r1, f0, f2, f3, -, -, -⟩ := HM4.out
  clear w3
  have n0 : w.heap.size ≠ w4.heap.size := by omega
  have n1 : w.heap.size + 1 ≠ w4.heap.size := by omega
  have n2 : w.heap.size + 1 + 1 ≠ w4.heap.size := by omega
  have n3 : w.heap.size + 1 + 1 + 1 ≠ w4.heap.size := by omega
  go_wp2_with (first
    | (at_lookup; refine look_sess _ rfl _ _ rfl T L2.length L2 c rfl HT.out rfl hc.out hnd.out ?_ (fun _ _ _ _ hno => absurd (hno.symm.trans hh.out) (by simp)); intro y1 y2 y3 y4 _ hy; (have hy' := hs.out.symm.trans hy); simp only [Prod.mk.injEq] at hy'; obtain ⟨rfl, rfl, rfl, rfl⟩ := hy'; (have HM5 := Lib.hid (HM4.out.later (show Below w4.heap.size w4 (w4.alloc (.cells #[.int .i64 l1, .int .i64 l2, .bool l3, .int .i64 l4] 120)) from (Below.refl _ _).alloc (Nat.le_refl _) _))); clear sz m0 m1 p0 p1 p2 p3 p4 p5 a0 a1 r0 r1 f0 f2 f3; obtain ⟨sz, m0, m1, p0, p1, p2, p3, p4, p5, a0, a1, r0, r1, f0, f2, f3, -, -, -⟩ := HM5.out)
    | go_in)
  go_region
  go_wp2_with fail
  refine bodyPost_ret (v := .tuple #[.agg #[.slice z1 L1.length e1, .slice z2 L2.length e2], .agg #[.bool l3, .int .i64 l4], .bool true]) (by simp [results, Tryz.results70, go_sem, a0, a1, r0, r1]) rfl ⟨_, _, rfl, (mid_end HM5.out _ _ _ _).1, (mid_end HM5.out _ _ _ _).2.1, (mid_end HM5.out _ _ _ _).2.2.drew⟩
end Go.Proofs.YtpdpejlcilnafaaGreatDoor.kit
