/-
  The draws of chapter 3: an operation; what turns below the heap's old size is the cursor alone.
-/
import Derived.Test.YtibpajlfcknegaaS2Draw
import Derived.Test.YtibpajlfcknegaaKept
import Derived.Deep.DeepCutAuto
import Derived.Deep.RegionWith
import Derived.Test.YtibpajlfcknegaaS3Plain
namespace Go.Proofs.Ytibpajlfcknegaa.kit
open Go.ChangeShapes Go.WideShapes Go.ChangeAt Go.RowKit
set_option linter.unusedVariables false
set_option linter.unusedSimpArgs false

theorem OpAt.grown {w w' : World} {b g : Nat} {c s k o d v : Int} (h : OpAt w b c s k o d v) (hg : w.grownBy w' (some g)) (hne : b ≠ g) : OpAt w' b c s k o d v := by
  have hb : w'.heap[b]? = w.heap[b]? := hg.block b h.lt (fun e => hne (Option.some.inj e))
  have hc := fun q => World.cell?_of_block (a := ⟨b, q, none⟩) hb
  have hf := fun q => World.frozen?_of_block (a := ⟨b, q, none⟩) hb
  exact ⟨(hc 0).trans h.c0, (hc 1).trans h.c1, (hc 2).trans h.c2, (hc 3).trans h.c3, (hc 4).trans h.c4, (hc 5).trans h.c5, (hf 0).trans h.f0, (hf 1).trans h.f1, (hf 2).trans h.f2, (hf 3).trans h.f3, (hf 4).trans h.f4, (hf 5).trans h.f5⟩
theorem OpAt.set0 {w : World} {b : Nat} {c s k o d v : Int} (h : OpAt w b c s k o d v) (x : Int) : OpAt (w.setCell ⟨b, 0, none⟩ (.int .i64 x)) b x s k o d v := by
  obtain ⟨c0, c1, c2, c3, c4, c5, f0, f1, f2, f3, f4, f5⟩ := h
  constructor <;> go_simp
theorem OpAt.set1 {w : World} {b : Nat} {c s k o d v : Int} (h : OpAt w b c s k o d v) (x : Int) : OpAt (w.setCell ⟨b, 1, none⟩ (.int .i64 x)) b c x k o d v := by
  obtain ⟨c0, c1, c2, c3, c4, c5, f0, f1, f2, f3, f4, f5⟩ := h
  constructor <;> go_simp
theorem OpAt.set3 {w : World} {b : Nat} {c s k o d v : Int} (h : OpAt w b c s k o d v) (x : Int) : OpAt (w.setCell ⟨b, 3, none⟩ (.int .i64 x)) b c s k x d v := by
  obtain ⟨c0, c1, c2, c3, c4, c5, f0, f1, f2, f3, f4, f5⟩ := h
  constructor <;> go_simp
theorem OpAt.set5 {w : World} {b : Nat} {c s k o d v : Int} (h : OpAt w b c s k o d v) (x : Int) : OpAt (w.setCell ⟨b, 5, none⟩ (.int .i64 x)) b c s k o d x := by
  obtain ⟨c0, c1, c2, c3, c4, c5, f0, f1, f2, f3, f4, f5⟩ := h
  constructor <;> go_simp
theorem OpAt.other {w : World} {b b' q : Nat} {c s k o d v : Int} (h : OpAt w b c s k o d v) (hne : b ≠ b') (u : Value) : OpAt (w.setCell ⟨b', q, none⟩ u) b c s k o d v := by
  have hb : (w.setCell ⟨b', q, none⟩ u).heap[b]? = w.heap[b]? := Below.heap_setCell _ _ _ _ (by simpa using hne)
  have hc := fun q => World.cell?_of_block (a := ⟨b, q, none⟩) hb
  have hf := fun q => World.frozen?_of_block (a := ⟨b, q, none⟩) hb
  exact ⟨(hc 0).trans h.c0, (hc 1).trans h.c1, (hc 2).trans h.c2, (hc 3).trans h.c3, (hc 4).trans h.c4, (hc 5).trans h.c5, (hf 0).trans h.f0, (hf 1).trans h.f1, (hf 2).trans h.f2, (hf 3).trans h.f3, (hf 4).trans h.f4, (hf 5).trans h.f5⟩
/-- a store into a block of one's own -/
theorem Drew.set {g b q : Nat} {a w : World} (h : Drew g a w) (hb : a.heap.size ≤ b) (hg : g < a.heap.size) (u : Value) : Drew g a (w.setCell ⟨b, q, none⟩ u) :=
  h.below ((Below.refl _ _).setCell (p := ⟨b, q, none⟩) hb u) hg
theorem Drew.set6 {g b : Nat} {a w : World} (h : Drew g a w) (hb : a.heap.size ≤ b) (hg : g < a.heap.size) (x0 x1 x2 x3 x4 x5 : Value) :
    Drew g a ((((((w.setCell ⟨b, 0, none⟩ x0).setCell ⟨b, 1, none⟩ x1).setCell ⟨b, 2, none⟩ x2).setCell ⟨b, 3, none⟩ x3).setCell ⟨b, 4, none⟩ x4).setCell ⟨b, 5, none⟩ x5) :=
  (((((h.set hb hg x0).set hb hg x1).set hb hg x2).set hb hg x3).set hb hg x4).set hb hg x5
set_option maxRecDepth 100000 in
set_option maxHeartbeats 4000000 in
theorem op_any (g : Nat) (w : World) (hc : Cur g w) :
    Calls Try.prog 54 #[.pointer (some ⟨g, 0, none⟩)] w fun e w' => ∃ c s k o d v : Int, e = .returned (opV c s k o d v) ∧ Drew g w w' := by
  unfold opV
  have hgs := hc.lt
  have hD0 := (Drew.refl hc).alloc (.cells #[.int .i64 0, .int .i64 0, .int .i64 0, .int .i64 0, .int .i64 0, .int .i64 0] 29)
  have hO0 : OpAt (w.alloc (.cells #[.int .i64 0, .int .i64 0, .int .i64 0, .int .i64 0, .int .i64 0, .int .i64 0] 29)) w.heap.size 0 0 0 0 0 0 := OpAt.alloc w
  have hz0 : w.heap.size < (w.alloc (.cells #[.int .i64 0, .int .i64 0, .int .i64 0, .int .i64 0, .int .i64 0, .int .i64 0] 29)).heap.size := by simp
  have C3 := fun W (h : Cur g W) => Lib.hid (below_small g 3 W (by decide) (by decide) h)
  have C5 := fun W (h : Cur g W) => Lib.hid (below_small g 5 W (by decide) (by decide) h)
  have CT := fun W (h : Cur g W) => Lib.hid (below_small g 10 W (by decide) (by decide) h)
  have CO := fun W (h : Cur g W) => Lib.hid (once_any g 3 W (by decide) (by decide) h)
  go_enter Try.func54, Try.ntmps54
  go_wp2_with fail
  refine ((C3 _ hD0.2).out).mono ?_
  rintro e w1 ⟨y1, rfl, ha1, hb1, hd1⟩
  have hD1 := hD0.trans hd1
  have hO1 := hO0.grown hd1.1 (by omega)
  go_wp2_with fail
  refine ((C5 _ hD1.2).out).mono ?_
  rintro e w2 ⟨y2, rfl, ha2, hb2, hd2⟩
  have hD2 := hD1.trans hd2
  have hO2 := hO1.grown hd2.1 (by omega)
  have hw2 : IntKind.i64.wrap (1 + y2) = 1 + y2 := IntWalk.i64_in _ (by omega)
  go_wp2_with fail
  refine ((C3 _ hD2.2).out).mono ?_
  rintro e w3 ⟨y3, rfl, ha3, hb3, hd3⟩
  have hD3 := hD2.trans hd3
  have hO3 := hO2.grown hd3.1 (by omega)
  go_wp2_with fail
  refine ((CT _ hD3.2).out).mono ?_
  rintro e w4 ⟨y4, rfl, ha4, hb4, hd4⟩
  have hD4 := hD3.trans hd4
  have hO4 := hO3.grown hd4.1 (by omega)
  have hz4 : w.heap.size < w4.heap.size := hO4.lt
  have hD5 := hD4.alloc (.cells #[.int .i64 y1, .int .i64 (1 + y2), .int .i64 1, .int .i64 y3, .int .i64 0, .int .i64 y4] 29)
  have hP5 : OpAt (w4.alloc (.cells #[.int .i64 y1, .int .i64 (1 + y2), .int .i64 1, .int .i64 y3, .int .i64 0, .int .i64 y4] 29)) w4.heap.size y1 (1 + y2) 1 y3 0 y4 := OpAt.alloc w4
  have hO5 := hO4.later ((Below.refl w4.heap.size w4).alloc (Nat.le_refl _) (.cells #[.int .i64 y1, .int .i64 (1 + y2), .int .i64 1, .int .i64 y3, .int .i64 0, .int .i64 y4] 29))
  clear hD0 hD1 hD2 hD3 hO0 hO1 hO2 hO3 hO4 hd1 hd2 hd3 hd4 hz0 C3 C5 CT
  go_wp2_with fail
  refine ((CO _ hD5.2).out).mono ?_
  rintro e w6 ⟨b, rfl, hd6⟩
  have hD6 := hD5.trans hd6
  have hP := hP5.grown hd6.1 (by omega)
  have hO := hO5.grown hd6.1 (by omega)
  clear hD5 hP5 hO5 hd6 hw2 CO
  have hne : w4.heap.size ≠ w.heap.size := by omega
  have hne' : w.heap.size ≠ w4.heap.size := by omega
  obtain ⟨p, hp⟩ : ∃ p, p = w4.heap.size := ⟨_, rfl⟩
  rw [← hp] at hP hne hne' ⊢
  have hpz : w.heap.size < p := by omega
  clear hp hz4 hD4
  cases b
  · skip
    have q0 := hP.c0
    have q1 := hP.c1
    have q2 := hP.c2
    have q3 := hP.c3
    have q4 := hP.c4
    have q5 := hP.c5
    obtain ⟨r0, r1, r2, r3, r4, r5, z0, z1, z2, z3, z4, z5⟩ := hO
    go_wp2_with fail
    refine bodyPost_ret (v := .agg #[.int .i64 y1, .int .i64 (1 + y2), .int .i64 1, .int .i64 y3, .int .i64 0, .int .i64 y4]) (by simp [results, Try.results54, go_sem, r0, r1, r2, r3, r4, r5]) rfl ?_
    exact ⟨_, _, _, _, _, _, rfl, hD6.set6 (Nat.le_refl _) hgs _ _ _ _ _ _⟩
  · have hpq := hP.c2
    have hpf := hP.f2
    go_wp2_with fail
    obtain ⟨w7, hw7⟩ : ∃ W, W = w6.setCell ⟨p, 2, none⟩ (.int .i64 2) := ⟨_, rfl⟩
    rw [← hw7]
    have hP7 : OpAt w7 p y1 (1 + y2) 2 y3 0 y4 := by rw [hw7]; exact hP.setKind 2
    have hO7 : OpAt w7 w.heap.size 0 0 0 0 0 0 := by rw [hw7]; exact hO.other hne' _
    have hD7 : Drew g w w7 := by rw [hw7]; exact hD6.set (by omega) hgs _
    have hpz7 := hP7.lt
    have hs7 : w7.heap.size = w6.heap.size := by rw [hw7, World.size_setCell]
    clear hw7 hP hO hD6 hpq hpf
    have j0 := pick_lits hD7.2 [0, 0, 1, 5, 9] (by decide) (by decide) (by unfold fits; decide)
    simp only [List.map_cons, List.map_nil, List.length_cons, List.length_nil, Nat.reduceAdd, hs7] at j0
    have J := Lib.hid j0
    clear j0
    refine (J.out).mono ?_
    rintro e w8 ⟨y5, rfl, hf5, hd8⟩
    have hP8 := hP7.grown hd8.1 (by have := hD7.1.size; omega)
    have hO8 := hO7.grown hd8.1 (by omega)
    have hD8 := hD7.trans hd8
    have hpq := hP8.c4
    have hpf := hP8.f4
    clear hP7 hO7 hD7 hd8 J
    go_upto_region 5 with (fail)
    obtain ⟨w9, hw9⟩ : ∃ W, W = w8.setCell ⟨p, 4, none⟩ (.int .i64 y5) := ⟨_, rfl⟩
    have hP : OpAt w9 p y1 (1 + y2) 2 y3 y5 y4 := by rw [hw9]; exact hP8.setOld y5
    have hO : OpAt w9 w.heap.size 0 0 0 0 0 0 := by rw [hw9]; exact hO8.other hne' _
    have hD9 : Drew g w w9 := by rw [hw9]; exact hD8.set (by omega) hgs _
    rw [← hw9]
    clear hw9 hP8 hO8 hD8 hpq hpf
    have q0 := hP.c0
    have q1 := hP.c1
    have q2 := hP.c2
    have q3 := hP.c3
    have q4 := hP.c4
    have q5 := hP.c5
    obtain ⟨r0, r1, r2, r3, r4, r5, z0, z1, z2, z3, z4, z5⟩ := hO
    go_wp2_with fail
    refine bodyPost_ret (v := .agg #[.int .i64 y1, .int .i64 (1 + y2), .int .i64 2, .int .i64 y3, .int .i64 y5, .int .i64 y4]) (by simp [results, Try.results54, go_sem, r0, r1, r2, r3, r4, r5]) rfl ?_
    exact ⟨_, _, _, _, _, _, rfl, hD9.set6 (Nat.le_refl _) hgs _ _ _ _ _ _⟩
set_option maxRecDepth 100000 in
set_option maxHeartbeats 8000000 in
theorem anyOp_any (g : Nat) (w : World) (hc : Cur g w) :
    Calls Try.prog 28 #[.pointer (some ⟨g, 0, none⟩)] w fun e w' => ∃ c s k o d v : Int, e = .returned (opV c s k o d v) ∧ Drew g w w' := by
  unfold opV
  have hgs := hc.lt
  have hD0 := (Drew.refl hc).alloc (.cells #[.int .i64 0, .int .i64 0, .int .i64 0, .int .i64 0, .int .i64 0, .int .i64 0] 29)
  have hO0 : OpAt (w.alloc (.cells #[.int .i64 0, .int .i64 0, .int .i64 0, .int .i64 0, .int .i64 0, .int .i64 0] 29)) w.heap.size 0 0 0 0 0 0 := OpAt.alloc w
  have hz0 : w.heap.size < (w.alloc (.cells #[.int .i64 0, .int .i64 0, .int .i64 0, .int .i64 0, .int .i64 0, .int .i64 0] 29)).heap.size := by simp
  have C1 := Lib.hid (op_any g _ hD0.2)
  have CB := fun W (h : Cur g W) => Lib.hid (below_small g 14 W (by decide) (by decide) h)
  go_enter Try.func28, Try.ntmps28
  go_wp2_with fail
  refine (C1.out).mono ?_
  rintro e w1 ⟨c, s, k, o, d, v, rfl, hd1⟩
  unfold opV
  have hD1 := hD0.trans hd1
  have hO1 := hO0.grown hd1.1 (by omega)
  have hz1 : w.heap.size < w1.heap.size := hO1.lt
  have hD2 := hD1.alloc (.cells #[.int .i64 c, .int .i64 s, .int .i64 k, .int .i64 o, .int .i64 d, .int .i64 v] 29)
  have hP2 : OpAt (w1.alloc (.cells #[.int .i64 c, .int .i64 s, .int .i64 k, .int .i64 o, .int .i64 d, .int .i64 v] 29)) w1.heap.size c s k o d v := OpAt.alloc w1
  have hO2 := hO1.later ((Below.refl w1.heap.size w1).alloc (Nat.le_refl _) (.cells #[.int .i64 c, .int .i64 s, .int .i64 k, .int .i64 o, .int .i64 d, .int .i64 v] 29))
  clear hD0 hO0 hz0 hd1 hO1 C1
  go_wp2_with fail
  refine ((CB _ hD2.2).out).mono ?_
  rintro e w3 ⟨y, rfl, hy0, hy1, hd3⟩
  have hD3 := hD2.trans hd3
  have hP3 := hP2.grown hd3.1 (by omega)
  have hO3 := hO2.grown hd3.1 (by omega)
  have hne : w1.heap.size ≠ w.heap.size := by omega
  have hne' : w.heap.size ≠ w1.heap.size := by omega
  obtain ⟨p, hp⟩ : ∃ p, p = w1.heap.size := ⟨_, rfl⟩
  rw [← hp] at hP3 hne hne' ⊢
  have hpz : w.heap.size < p := by omega
  have hpl := hP3.lt
  clear hp hz1 hD1 hD2 hP2 hO2 hd3 CB
  have hy : y = 0 ∨ y = 1 ∨ y = 2 ∨ y = 3 ∨ y = 4 ∨ y = 5 ∨ 6 ≤ y := by omega
  rcases hy with rfl | rfl | rfl | rfl | rfl | rfl | hy
  · clear hy0 hy1
    have j0 := pick_lits hD3.2 [-1, 2, 3] (by decide) (by decide) (by unfold fits; decide)
    simp only [List.map_cons, List.map_nil, List.length_cons, List.length_nil, Nat.reduceAdd] at j0
    have J := Lib.hid j0
    clear j0
    go_wp2_with fail
    refine (J.out).mono ?_
    rintro e w8 ⟨y5, rfl, hf5, hd8⟩
    have hP8 := hP3.grown hd8.1 (by have := hD3.1.size; omega)
    have hO8 := hO3.grown hd8.1 (by omega)
    have hD8 := hD3.trans hd8
    have hpq := hP8.c0
    have hpf := hP8.f0
    clear hP3 hO3 hD3 hd8 J
    go_upto_region 15 with (fail)
    obtain ⟨w9, hw9⟩ : ∃ W, W = w8.setCell ⟨p, 0, none⟩ (.int .i64 y5) := ⟨_, rfl⟩
    have hP := (hw9 ▸ hP8.set0 y5 : OpAt w9 p _ _ _ _ _ _)
    have hO := (hw9 ▸ hO8.other hne' _ : OpAt w9 w.heap.size _ _ _ _ _ _)
    have hD9 : Drew g w w9 := hw9 ▸ hD8.set (by omega) hgs _
    rw [← hw9]
    clear hw9 hP8 hO8 hD8 hpq hpf
    obtain ⟨x0, x1, x2, x3, x4, x5, hP⟩ : ∃ x0 x1 x2 x3 x4 x5, OpAt w9 p x0 x1 x2 x3 x4 x5 := ⟨_, _, _, _, _, _, hP⟩
    have q0 := hP.c0
    have q1 := hP.c1
    have q2 := hP.c2
    have q3 := hP.c3
    have q4 := hP.c4
    have q5 := hP.c5
    obtain ⟨r0, r1, r2, r3, r4, r5, z0, z1, z2, z3, z4, z5⟩ := hO
    go_wp2_with fail
    refine bodyPost_ret (v := .agg #[.int .i64 x0, .int .i64 x1, .int .i64 x2, .int .i64 x3, .int .i64 x4, .int .i64 x5]) (by simp [results, Try.results28, go_sem, r0, r1, r2, r3, r4, r5]) rfl ?_
    exact ⟨_, _, _, _, _, _, rfl, hD9.set6 (Nat.le_refl _) hgs _ _ _ _ _ _⟩
  · clear hy0 hy1
    have j0 := pick_lits hD3.2 [0, 99, 100] (by decide) (by decide) (by unfold fits; decide)
    simp only [List.map_cons, List.map_nil, List.length_cons, List.length_nil, Nat.reduceAdd] at j0
    have J := Lib.hid j0
    clear j0
    go_wp2_with fail
    refine (J.out).mono ?_
    rintro e w8 ⟨y5, rfl, hf5, hd8⟩
    have hP8 := hP3.grown hd8.1 (by have := hD3.1.size; omega)
    have hO8 := hO3.grown hd8.1 (by omega)
    have hD8 := hD3.trans hd8
    have hpq := hP8.c1
    have hpf := hP8.f1
    clear hP3 hO3 hD3 hd8 J
    go_upto_region 15 with (fail)
    obtain ⟨w9, hw9⟩ : ∃ W, W = w8.setCell ⟨p, 1, none⟩ (.int .i64 y5) := ⟨_, rfl⟩
    have hP := (hw9 ▸ hP8.set1 y5 : OpAt w9 p _ _ _ _ _ _)
    have hO := (hw9 ▸ hO8.other hne' _ : OpAt w9 w.heap.size _ _ _ _ _ _)
    have hD9 : Drew g w w9 := hw9 ▸ hD8.set (by omega) hgs _
    rw [← hw9]
    clear hw9 hP8 hO8 hD8 hpq hpf
    obtain ⟨x0, x1, x2, x3, x4, x5, hP⟩ : ∃ x0 x1 x2 x3 x4 x5, OpAt w9 p x0 x1 x2 x3 x4 x5 := ⟨_, _, _, _, _, _, hP⟩
    have q0 := hP.c0
    have q1 := hP.c1
    have q2 := hP.c2
    have q3 := hP.c3
    have q4 := hP.c4
    have q5 := hP.c5
    obtain ⟨r0, r1, r2, r3, r4, r5, z0, z1, z2, z3, z4, z5⟩ := hO
    go_wp2_with fail
    refine bodyPost_ret (v := .agg #[.int .i64 x0, .int .i64 x1, .int .i64 x2, .int .i64 x3, .int .i64 x4, .int .i64 x5]) (by simp [results, Try.results28, go_sem, r0, r1, r2, r3, r4, r5]) rfl ?_
    exact ⟨_, _, _, _, _, _, rfl, hD9.set6 (Nat.le_refl _) hgs _ _ _ _ _ _⟩
  · clear hy0 hy1
    have J := Lib.hid (below_small g 4 w3 (by decide) (by decide) hD3.2)
    go_wp2_with fail
    refine (J.out).mono ?_
    rintro e w8 ⟨y5, rfl, hf5, hf6, hd8⟩
    have hP8 := hP3.grown hd8.1 (by have := hD3.1.size; omega)
    have hO8 := hO3.grown hd8.1 (by omega)
    have hD8 := hD3.trans hd8
    have hpq := hP8.c2
    have hpf := hP8.f2
    clear hP3 hO3 hD3 hd8 J
    go_upto_region 15 with (fail)
    obtain ⟨w9, hw9⟩ : ∃ W, W = w8.setCell ⟨p, 2, none⟩ (.int .i64 y5) := ⟨_, rfl⟩
    have hP := (hw9 ▸ hP8.setKind y5 : OpAt w9 p _ _ _ _ _ _)
    have hO := (hw9 ▸ hO8.other hne' _ : OpAt w9 w.heap.size _ _ _ _ _ _)
    have hD9 : Drew g w w9 := hw9 ▸ hD8.set (by omega) hgs _
    rw [← hw9]
    clear hw9 hP8 hO8 hD8 hpq hpf
    obtain ⟨x0, x1, x2, x3, x4, x5, hP⟩ : ∃ x0 x1 x2 x3 x4 x5, OpAt w9 p x0 x1 x2 x3 x4 x5 := ⟨_, _, _, _, _, _, hP⟩
    have q0 := hP.c0
    have q1 := hP.c1
    have q2 := hP.c2
    have q3 := hP.c3
    have q4 := hP.c4
    have q5 := hP.c5
    obtain ⟨r0, r1, r2, r3, r4, r5, z0, z1, z2, z3, z4, z5⟩ := hO
    go_wp2_with fail
    refine bodyPost_ret (v := .agg #[.int .i64 x0, .int .i64 x1, .int .i64 x2, .int .i64 x3, .int .i64 x4, .int .i64 x5]) (by simp [results, Try.results28, go_sem, r0, r1, r2, r3, r4, r5]) rfl ?_
    exact ⟨_, _, _, _, _, _, rfl, hD9.set6 (Nat.le_refl _) hgs _ _ _ _ _ _⟩
  · clear hy0 hy1
    have j0 := pick_lits hD3.2 [-1, 3] (by decide) (by decide) (by unfold fits; decide)
    simp only [List.map_cons, List.map_nil, List.length_cons, List.length_nil, Nat.reduceAdd] at j0
    have J := Lib.hid j0
    clear j0
    go_wp2_with fail
    refine (J.out).mono ?_
    rintro e w8 ⟨y5, rfl, hf5, hd8⟩
    have hP8 := hP3.grown hd8.1 (by have := hD3.1.size; omega)
    have hO8 := hO3.grown hd8.1 (by omega)
    have hD8 := hD3.trans hd8
    have hpq := hP8.c3
    have hpf := hP8.f3
    clear hP3 hO3 hD3 hd8 J
    go_upto_region 15 with (fail)
    obtain ⟨w9, hw9⟩ : ∃ W, W = w8.setCell ⟨p, 3, none⟩ (.int .i64 y5) := ⟨_, rfl⟩
    have hP := (hw9 ▸ hP8.set3 y5 : OpAt w9 p _ _ _ _ _ _)
    have hO := (hw9 ▸ hO8.other hne' _ : OpAt w9 w.heap.size _ _ _ _ _ _)
    have hD9 : Drew g w w9 := hw9 ▸ hD8.set (by omega) hgs _
    rw [← hw9]
    clear hw9 hP8 hO8 hD8 hpq hpf
    obtain ⟨x0, x1, x2, x3, x4, x5, hP⟩ : ∃ x0 x1 x2 x3 x4 x5, OpAt w9 p x0 x1 x2 x3 x4 x5 := ⟨_, _, _, _, _, _, hP⟩
    have q0 := hP.c0
    have q1 := hP.c1
    have q2 := hP.c2
    have q3 := hP.c3
    have q4 := hP.c4
    have q5 := hP.c5
    obtain ⟨r0, r1, r2, r3, r4, r5, z0, z1, z2, z3, z4, z5⟩ := hO
    go_wp2_with fail
    refine bodyPost_ret (v := .agg #[.int .i64 x0, .int .i64 x1, .int .i64 x2, .int .i64 x3, .int .i64 x4, .int .i64 x5]) (by simp [results, Try.results28, go_sem, r0, r1, r2, r3, r4, r5]) rfl ?_
    exact ⟨_, _, _, _, _, _, rfl, hD9.set6 (Nat.le_refl _) hgs _ _ _ _ _ _⟩
  · clear hy0 hy1
    have j0 := pick_lits hD3.2 [-1, 9, 10] (by decide) (by decide) (by unfold fits; decide)
    simp only [List.map_cons, List.map_nil, List.length_cons, List.length_nil, Nat.reduceAdd] at j0
    have J := Lib.hid j0
    clear j0
    go_wp2_with fail
    refine (J.out).mono ?_
    rintro e w8 ⟨y5, rfl, hf5, hd8⟩
    have hP8 := hP3.grown hd8.1 (by have := hD3.1.size; omega)
    have hO8 := hO3.grown hd8.1 (by omega)
    have hD8 := hD3.trans hd8
    have hpq := hP8.c5
    have hpf := hP8.f5
    clear hP3 hO3 hD3 hd8 J
    go_upto_region 15 with (fail)
    obtain ⟨w9, hw9⟩ : ∃ W, W = w8.setCell ⟨p, 5, none⟩ (.int .i64 y5) := ⟨_, rfl⟩
    have hP := (hw9 ▸ hP8.set5 y5 : OpAt w9 p _ _ _ _ _ _)
    have hO := (hw9 ▸ hO8.other hne' _ : OpAt w9 w.heap.size _ _ _ _ _ _)
    have hD9 : Drew g w w9 := hw9 ▸ hD8.set (by omega) hgs _
    rw [← hw9]
    clear hw9 hP8 hO8 hD8 hpq hpf
    obtain ⟨x0, x1, x2, x3, x4, x5, hP⟩ : ∃ x0 x1 x2 x3 x4 x5, OpAt w9 p x0 x1 x2 x3 x4 x5 := ⟨_, _, _, _, _, _, hP⟩
    have q0 := hP.c0
    have q1 := hP.c1
    have q2 := hP.c2
    have q3 := hP.c3
    have q4 := hP.c4
    have q5 := hP.c5
    obtain ⟨r0, r1, r2, r3, r4, r5, z0, z1, z2, z3, z4, z5⟩ := hO
    go_wp2_with fail
    refine bodyPost_ret (v := .agg #[.int .i64 x0, .int .i64 x1, .int .i64 x2, .int .i64 x3, .int .i64 x4, .int .i64 x5]) (by simp [results, Try.results28, go_sem, r0, r1, r2, r3, r4, r5]) rfl ?_
    exact ⟨_, _, _, _, _, _, rfl, hD9.set6 (Nat.le_refl _) hgs _ _ _ _ _ _⟩
  · clear hy0 hy1
    have j0 := pick_lits hD3.2 [-1, 0, 9, 10] (by decide) (by decide) (by unfold fits; decide)
    simp only [List.map_cons, List.map_nil, List.length_cons, List.length_nil, Nat.reduceAdd] at j0
    have J := Lib.hid j0
    clear j0
    go_wp2_with fail
    refine (J.out).mono ?_
    rintro e w8 ⟨y5, rfl, hf5, hd8⟩
    have hP8 := hP3.grown hd8.1 (by have := hD3.1.size; omega)
    have hO8 := hO3.grown hd8.1 (by omega)
    have hD8 := hD3.trans hd8
    have hpq := hP8.c4
    have hpf := hP8.f4
    clear hP3 hO3 hD3 hd8 J
    go_upto_region 15 with (fail)
    obtain ⟨w9, hw9⟩ : ∃ W, W = w8.setCell ⟨p, 4, none⟩ (.int .i64 y5) := ⟨_, rfl⟩
    have hP := (hw9 ▸ hP8.setOld y5 : OpAt w9 p _ _ _ _ _ _)
    have hO := (hw9 ▸ hO8.other hne' _ : OpAt w9 w.heap.size _ _ _ _ _ _)
    have hD9 : Drew g w w9 := hw9 ▸ hD8.set (by omega) hgs _
    rw [← hw9]
    clear hw9 hP8 hO8 hD8 hpq hpf
    obtain ⟨x0, x1, x2, x3, x4, x5, hP⟩ : ∃ x0 x1 x2 x3 x4 x5, OpAt w9 p x0 x1 x2 x3 x4 x5 := ⟨_, _, _, _, _, _, hP⟩
    have q0 := hP.c0
    have q1 := hP.c1
    have q2 := hP.c2
    have q3 := hP.c3
    have q4 := hP.c4
    have q5 := hP.c5
    obtain ⟨r0, r1, r2, r3, r4, r5, z0, z1, z2, z3, z4, z5⟩ := hO
    go_wp2_with fail
    refine bodyPost_ret (v := .agg #[.int .i64 x0, .int .i64 x1, .int .i64 x2, .int .i64 x3, .int .i64 x4, .int .i64 x5]) (by simp [results, Try.results28, go_sem, r0, r1, r2, r3, r4, r5]) rfl ?_
    exact ⟨_, _, _, _, _, _, rfl, hD9.set6 (Nat.le_refl _) hgs _ _ _ _ _ _⟩
  · have t0 : (y == 0) = false := by rw [beq_eq_false_iff_ne]; omega
    have t1 : (y == 1) = false := by rw [beq_eq_false_iff_ne]; omega
    have t2 : (y == 2) = false := by rw [beq_eq_false_iff_ne]; omega
    have t3 : (y == 3) = false := by rw [beq_eq_false_iff_ne]; omega
    have t4 : (y == 4) = false := by rw [beq_eq_false_iff_ne]; omega
    have t5 : (y == 5) = false := by rw [beq_eq_false_iff_ne]; omega
    have hP := hP3
    have hO := hO3
    have hD9 := hD3
    obtain ⟨w9, rfl⟩ : ∃ W, W = w3 := ⟨_, rfl⟩
    clear hP3 hO3 hD3
    go_upto_region 15 with (fail)
    obtain ⟨x0, x1, x2, x3, x4, x5, hP⟩ : ∃ x0 x1 x2 x3 x4 x5, OpAt w9 p x0 x1 x2 x3 x4 x5 := ⟨_, _, _, _, _, _, hP⟩
    have q0 := hP.c0
    have q1 := hP.c1
    have q2 := hP.c2
    have q3 := hP.c3
    have q4 := hP.c4
    have q5 := hP.c5
    obtain ⟨r0, r1, r2, r3, r4, r5, z0, z1, z2, z3, z4, z5⟩ := hO
    go_wp2_with fail
    refine bodyPost_ret (v := .agg #[.int .i64 x0, .int .i64 x1, .int .i64 x2, .int .i64 x3, .int .i64 x4, .int .i64 x5]) (by simp [results, Try.results28, go_sem, r0, r1, r2, r3, r4, r5]) rfl ?_
    exact ⟨_, _, _, _, _, _, rfl, hD9.set6 (Nat.le_refl _) hgs _ _ _ _ _ _⟩
end Go.Proofs.Ytibpajlfcknegaa.kit
