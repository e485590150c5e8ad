/-
  The draws of chapter 9: places, lists of servers, a number; below the heap's old size nothing turns.
-/
import Derived.Test.YtpdpejlcilnafaaS2Draw
import Derived.Test.YtpdpejlcilnafaaPlas4
namespace Go.Proofs.Ytpdpejlcilnafaa.kit
open Go.ChangeShapes Go.WideShapes Go.ChangeAt Go.RowKit
set_option linter.unusedVariables false
set_option linter.unusedSimpArgs false

theorem OwnQ.drew {g : Nat} {w w' : World} {base : Nat} {v : Value} {l : List Pla} (h : OwnQ base w v l) (hd : Drew g w w') (hg : g < base) : OwnQ base w' v l := own_drew h.row hd hg
/-- places of the call's own, or a part of them -/
def PlaV (N : Nat) (w : World) (v : Value) (L : List Pla) : Prop := ∃ a c, v = .slice a L.length c ∧ AtQ w a L ∧ ∀ x : Addr, a = some x → 0 < L.length → N ≤ x.block
theorem PlaV.of {N : Nat} {w : World} {v : Value} {L : List Pla} (h : OwnQ N w v L) : PlaV N w v L := by
  obtain ⟨a, c, rfl, _, _, hat, hb⟩ := h.form
  exact ⟨a, c, rfl, hat, fun x hx _ => (hb x hx).1⟩
theorem PlaV.drew {g N : Nat} {w w' : World} {v : Value} {L : List Pla} (h : PlaV N w v L) (hd : Drew g w w') (hg : g < N) : PlaV N w' v L := by
  obtain ⟨a, c, rfl, hat, hb⟩ := h
  refine ⟨a, c, rfl, fun j hj => ?_, hb⟩
  obtain ⟨b, o, hx, hlt, hc⟩ := hat j hj
  have hne : N ≤ b := hb _ hx (by omega)
  have hk : w'.heap[b]? = w.heap[b]? := hd.1.block b hlt (fun e => by have := Option.some.inj e; omega)
  exact ⟨b, o, hx, Nat.lt_of_lt_of_le hlt hd.1.size, ⟨(World.cell?_of_block hk).trans hc.c0, (World.cell?_of_block hk).trans hc.c1, (World.cell?_of_block hk).trans hc.c2⟩⟩
theorem PlaV.later {N : Nat} {w w' : World} {v : Value} {L : List Pla} (h : PlaV N w v L) (hb : Below w.heap.size w w') : PlaV N w' v L := by
  obtain ⟨a, c, rfl, hat, hl⟩ := h
  exact ⟨a, c, rfl, hat.later hb, hl⟩
set_option maxRecDepth 100000 in
set_option maxHeartbeats 4000000 in
theorem places_any (g : Nat) (w : World) (hc : Cur g w) :
    Calls Try.prog 64 #[.pointer (some ⟨g, 0, none⟩)] w fun e w' => ∃ (v : Value) (L : List Pla), e = .returned v ∧ L.length = 5 ∧ OwnQ w.heap.size w' v L ∧ Drew g w w' := by
  have hgs := hc.lt
  have C := fun W (h : Cur g W) => Lib.hid (below_small g 4 W (by decide) (by decide) h)
  have HT := Lib.hid Try.underlying24
  have hd0 := (Drew.refl hc).alloc (.cells #[] 61)
  go_enter Try.func64, Try.ntmps64
  go_wp2_with fail
  go_loopw [3, 4] (fun v n wr => ∃ (k : Nat) (l : List Pla), n = .int .i64 k ∧ k ≤ 5 ∧ Hid (l.length = k) ∧ OwnQ w.heap.size wr v l ∧ Drew g w wr) (fun _ n _ => 5 - (intOf n).toNat)
  case atStart => exact ⟨0, [], rfl, by omega, Lib.hid rfl, ownQ_new w _ (Nat.le_refl _), hd0⟩
  case round =>
    obtain ⟨k, l, rfl, hk, hl, hown, hD⟩ := hrel
    by_cases hlt : k < 5
    · go_wp2_with fail
      refine ((C _ hD.2).out).mono ?_
      rintro e w1 ⟨x, rfl, hx0, hx1, hd1⟩
      have hD1 := hD.trans hd1
      have ho1 := hown.drew hd1 hgs
      go_wp2_with fail
      refine ((C _ hD1.2).out).mono ?_
      rintro e w2 ⟨y, rfl, hy0, hy1, hd2⟩
      have hD2 := hD1.trans hd2
      have ho2 := ho1.drew hd2 hgs
      have hw : IntKind.i64.wrap (1 + y) = 1 + y := IntWalk.i64_in _ (by omega)
      go_wp2_with fail
      refine ((C _ hD2.2).out).mono ?_
      rintro e w3 ⟨z, rfl, hz0, hz1, hd3⟩
      have hD3 := hD2.trans hd3
      have ho3 := ho2.drew hd3 hgs
      have hlit := SrcQ.lit w3 x (1 + y) z
      have hll : l.length ≤ 5 := by have := hl.out; omega
      have hsz := hD3.1.size
      clear hown ho1 ho2 hD hD1 hD2 hd1 hd2 hd3
      go_wp2_with (at_builtin; refine wpList_appQ HT.out rfl (.tmp 10) (.tmp 19) rfl w.heap.size _ l rfl (ho3.later ((Below.refl _ _).alloc (Nat.le_refl _) _)) _ _ [⟨x, 1 + y, z⟩] rfl hlit (by simp; omega) (by simp; omega) ?_; intro v' w6 ho6 hb6 hg6)
      go_roundw
      case rel => exact ⟨k + 1, l ++ [⟨x, 1 + y, z⟩], by go_num, by omega, Lib.hid (by simp; exact hl.out), ho6, (hD3.alloc _).below hb6 hgs⟩
      case measure => simp [intOf]; omega
    · go_wp2_with fail
      go_ret
      exact ⟨_, l, rfl, by have := hl.out; omega, hown, hD⟩
theorem five_of {L : List Pla} (h : L.length = 5) : ∃ p0 p1 p2 p3 p4, L = [p0, p1, p2, p3, p4] := by
  match L, h with
  | [p0, p1, p2, p3, p4], _ => exact ⟨p0, p1, p2, p3, p4, rfl⟩
theorem run_rest (W : World) (b cap : Nat) (h : 5 ≤ cap) : (Instr.slice 24 (.slice (some ⟨b, 0, none⟩) 5 cap) (some (.int .i64 1)) none none).run Try.prog W = .ok (.slice (some ⟨b, 3, none⟩) 4 (cap - 1)) W := by
  rw [run_slice_l (P := Try.prog) W 24 (some ⟨b, 0, none⟩) 5 cap (by kernel_rfl) .i64 1 (by omega) (by omega)]
  have hs : (sizeOf (Try.prog.elem 24)).run Try.prog W = .ok 3 W := by kernel_rfl
  rw [hs]
  unfold sliced
  have hne : ¬ cap - 1 = 0 := by omega
  have hne' : ¬ cap = 1 := by omega
  simp [hne, hne', Addr.add]
set_option maxRecDepth 100000 in
set_option maxHeartbeats 4000000 in
theorem places9 (g : Nat) (w : World) (hc : Cur g w) :
    Calls Try.prog 42 #[.pointer (some ⟨g, 0, none⟩)] w fun e w' => ∃ (v : Value) (L : List Pla), e = .returned v ∧ L.length ≤ 5 ∧ PlaV w.heap.size w' v L ∧ Drew g w w' := by
  have hgs := hc.lt
  have C1 := Lib.hid (places_any g w hc)
  go_enter Try.func42, Try.ntmps42
  go_wp2_with fail
  refine (C1.out).mono ?_
  rintro e w1 ⟨v, L, rfl, hL, ho1, hd1⟩
  have C2 := Lib.hid (below_small g 14 w1 (by decide) (by decide) hd1.2)
  go_wp2_with fail
  refine (C2.out).mono ?_
  rintro e w2 ⟨t, rfl, ht0, ht1, hd2⟩
  have hD2 := hd1.trans hd2
  have ho2 := ho1.drew hd2 hgs
  clear C1 C2 ho1 hd1 hd2
  obtain ⟨p0, p1, p2, p3, p4, rfl⟩ := five_of hL
  obtain ⟨b, cap, rfl, hcap, hcm, hbN, hbl⟩ := ho2.there (by simp)
  have hc5 : 5 ≤ cap := hcap
  have HC5 := Lib.hid hc5
  by_cases h0 : t = 0
  · subst h0
    have hrun := fun W => run_rest W b cap hc5
    clear hL hcap hc5
    go_wp2_with fail
    go_ret
    refine ⟨_, [p1, p2, p3, p4], rfl, by simp, ⟨some ⟨b, 3, none⟩, _, rfl, fun j hj => ?_, fun x hx _ => by cases hx; exact hbN⟩, hD2⟩
    have h1 := ho2.at (j + 1) (by simp at hj ⊢; omega)
    refine ⟨b, 3, rfl, hbl, ?_⟩
    have e1 : (j + 1) * 3 = 3 + j * 3 := by omega
    rw [e1] at h1
    exact h1
  · have t0 : (t == 0) = false := by rw [beq_eq_false_iff_ne]; exact h0
    by_cases h1 : t = 1
    · subst h1
      have C3 := Lib.hid (pick_lits hD2.2 [-1, 9, 10] (by simp) (by simp) (by intro y hy; simp at hy; rcases hy with rfl | rfl | rfl <;> (unfold fits; omega)))
      clear hL hcap hc5 t0 h0
      go_wp2_with fail
      refine (C3.out).mono ?_
      rintro e w3 ⟨y, rfl, hf, hd3⟩
      have hD3 := hD2.trans hd3
      have ho3 := ho2.drew hd3 hgs
      have hcell := ho3.row.cellAt 0 (by simp [cellsQ])
      have hfr := ho3.row.frozenAt 0
      have hst := ho3.row.stored 0 (.int .i64 y)
      have hcell : w3.cell? ⟨b, 0, none⟩ = some (.int .i64 p0.r) := hcell
      clear C3 ho2 hd3
      go_wp2_with fail
      go_ret
      refine ⟨_, [⟨y, p0.c, p0.l⟩, p1, p2, p3, p4], rfl, by simp, PlaV.of (OwnQ.of hst.1 rfl), ?_⟩
      exact hD3.below ((Below.refl _ _).setCell hbN _) hgs
    · have t1 : (t == 1) = false := by rw [beq_eq_false_iff_ne]; exact h1
      by_cases h2 : t = 2
      · subst h2
        have C3 := Lib.hid (pick_lits hD2.2 [-1, 99, 100] (by simp) (by simp) (by intro y hy; simp at hy; rcases hy with rfl | rfl | rfl <;> (unfold fits; omega)))
        clear hL hcap hc5 t0 h0 t1 h1
        go_wp2_with fail
        refine (C3.out).mono ?_
        rintro e w3 ⟨y, rfl, hf, hd3⟩
        have hD3 := hD2.trans hd3
        have ho3 := ho2.drew hd3 hgs
        have hcell := ho3.row.cellAt 5 (by simp [cellsQ])
        have hfr := ho3.row.frozenAt 5
        have hst := ho3.row.stored 5 (.int .i64 y)
        have hcell : w3.cell? ⟨b, 5, none⟩ = some (.int .i64 p1.l) := hcell
        clear C3 ho2 hd3
        go_wp2_with fail
        go_ret
        refine ⟨_, [p0, ⟨p1.r, p1.c, y⟩, p2, p3, p4], rfl, by simp, PlaV.of (OwnQ.of hst.1 rfl), ?_⟩
        exact hD3.below ((Below.refl _ _).setCell hbN _) hgs
      · have t2 : (t == 2) = false := by rw [beq_eq_false_iff_ne]; exact h2
        clear hL hcap hc5 h0 h1 h2
        go_wp2_with fail
        go_ret
        exact ⟨_, [p0, p1, p2, p3, p4], rfl, by simp, PlaV.of ho2, hD2⟩
theorem results_tmp4 {fn : Func} {t u v x : Tmp} (h : fn.results = #[.tmp t, .tmp u, .tmp v, .tmp x]) (tmps : Array Value) (P : Program) (w : World) :
    (results fn tmps).run P w = .ok (.tuple #[tmps.getD t undef, tmps.getD u undef, tmps.getD v undef, tmps.getD x undef]) w := by
  simp [results, h]
set_option maxRecDepth 100000 in
theorem drawPlanMembers (A : Option Addr) (len cap : Nat) (zs : List Int) (w : World) (hc : Code w A len cap zs) :
    Calls Try.prog 12 #[.slice A len cap] w fun e w' => ∃ (v1 v2 v3 : Value) (L : List Pla) (m al : List Int) (z : Int), e = .returned (.tuple #[v1, v2, v3, .int .i64 z]) ∧ L.length ≤ 5 ∧ m.length ≤ 6 ∧ al.length ≤ 6 ∧ PlaV w.heap.size w' v1 L ∧ OwnI w.heap.size w' v2 m ∧ OwnI w.heap.size w' v3 al ∧ Below w.heap.size w w' := by
  have C1 := Lib.hid (new_any A len cap zs w hc.row hc.low)
  go_enter Try.func12, Try.ntmps12
  go_wp2_with fail
  refine (C1.out).mono ?_
  rintro e w1 ⟨rfl, hcu, hb1⟩
  have hgs := hcu.lt
  have hg0 : w.heap.size ≤ w.heap.size := Nat.le_refl _
  have C2 := Lib.hid (places9 _ w1 hcu)
  clear C1
  go_wp2_with fail
  refine (C2.out).mono ?_
  rintro e w2 ⟨v1, L, rfl, hL, hP, hd2⟩
  have C3 := Lib.hid (any_any _ w2 hd2.2)
  clear C2
  go_wp2_with fail
  refine (C3.out).mono ?_
  rintro e w3 ⟨v2, m, rfl, hm, hom, hd3⟩
  have hP3 := hP.drew hd3 hgs
  have C4 := Lib.hid (any_any _ w3 hd3.2)
  clear C3 hP
  go_wp2_with fail
  refine (C4.out).mono ?_
  rintro e w4 ⟨v3, al, rfl, hal, hoa, hd4⟩
  have hP4 := hP3.drew hd4 hgs
  have hom4 := hom.drew hd4 (by have := hd2.1.size; omega)
  have C5 := Lib.hid (below_small _ 8 w4 (by decide) (by decide) hd4.2)
  clear C4 hP3 hom
  go_wp2_with fail
  refine (C5.out).mono ?_
  rintro e w5 ⟨t, rfl, ht0, ht1, hd5⟩
  have hP5 := hP4.drew hd5 hgs
  have hom5 := hom4.drew hd5 (by have := hd2.1.size; omega)
  have hoa5 := hoa.drew hd5 (by have := hd2.1.size; have := hd3.1.size; omega)
  have hw : IntKind.i64.wrap (t - 1) = t - 1 := IntWalk.i64_in _ (by omega)
  have HW := Lib.hid (show w.heap.size ≤ w1.heap.size ∧ w.heap.size ≤ w2.heap.size ∧ w.heap.size ≤ w3.heap.size from ⟨hb1.size, Nat.le_trans hb1.size hd2.1.size, Nat.le_trans hb1.size (Nat.le_trans hd2.1.size hd3.1.size)⟩)
  have HD := Lib.hid (((hd2.trans hd3).trans hd4).trans hd5)
  obtain ⟨a1, c1, rfl, hq1, hq2⟩ := hP5
  clear C5 hP4 hom4 hoa hd2 hd3 hd4 hd5
  go_wp2_with fail
  (try simp only [Exit.inBlock, Exit.then])
  refine bodyPost_ret (results_tmp4 rfl _ _ _) rfl ?_
  exact ⟨_, _, _, L, m, al, _, rfl, hL, hm, hal, ⟨a1, c1, rfl, hq1, fun x hx hp => Nat.le_trans HW.out.1 (hq2 x hx hp)⟩, hom5.mono HW.out.2.1, hoa5.mono HW.out.2.2, grown_below hb1 HD.out.1 HW.out.1 hg0⟩
set_option maxRecDepth 100000 in
theorem drawPickSpare (A : Option Addr) (len cap : Nat) (zs : List Int) (w : World) (hc : Code w A len cap zs) :
    Calls Try.prog 23 #[.slice A len cap] w fun e w' => ∃ (v1 v2 v3 : Value) (L : List Pla) (m al : List Int), e = .returned (.tuple #[v1, v2, v3]) ∧ L.length ≤ 5 ∧ m.length ≤ 6 ∧ al.length ≤ 6 ∧ PlaV w.heap.size w' v1 L ∧ OwnI w.heap.size w' v2 m ∧ OwnI w.heap.size w' v3 al ∧ Below w.heap.size w w' := by
  have C1 := Lib.hid (new_any A len cap zs w hc.row hc.low)
  go_enter Try.func23, Try.ntmps23
  go_wp2_with fail
  refine (C1.out).mono ?_
  rintro e w1 ⟨rfl, hcu, hb1⟩
  have hgs := hcu.lt
  have hg0 : w.heap.size ≤ w.heap.size := Nat.le_refl _
  have C2 := Lib.hid (places9 _ w1 hcu)
  clear C1
  go_wp2_with fail
  refine (C2.out).mono ?_
  rintro e w2 ⟨v1, L, rfl, hL, hP, hd2⟩
  have C3 := Lib.hid (any_any _ w2 hd2.2)
  clear C2
  go_wp2_with fail
  refine (C3.out).mono ?_
  rintro e w3 ⟨v2, m, rfl, hm, hom, hd3⟩
  have hP3 := hP.drew hd3 hgs
  have C4 := Lib.hid (some_any _ w3 hd3.2)
  clear C3 hP
  go_wp2_with fail
  refine (C4.out).mono ?_
  rintro e w4 ⟨v3, al, rfl, hal, hoa, hd4⟩
  have hP4 := hP3.drew hd4 hgs
  have hom4 := hom.drew hd4 (by have := hd2.1.size; omega)
  have HW := Lib.hid (show w.heap.size ≤ w1.heap.size ∧ w.heap.size ≤ w2.heap.size ∧ w.heap.size ≤ w3.heap.size from ⟨hb1.size, Nat.le_trans hb1.size hd2.1.size, Nat.le_trans hb1.size (Nat.le_trans hd2.1.size hd3.1.size)⟩)
  have HD := Lib.hid ((hd2.trans hd3).trans hd4)
  obtain ⟨a1, c1, rfl, hq1, hq2⟩ := hP4
  clear C4 hP3 hom hd2 hd3 hd4
  go_wp2_with fail
  go_ret3
  exact ⟨_, _, _, L, m, al, rfl, hL, hm, by omega, ⟨a1, c1, rfl, hq1, fun x hx hp => Nat.le_trans HW.out.1 (hq2 x hx hp)⟩, hom4.mono HW.out.2.1, hoa.mono HW.out.2.2, grown_below hb1 HD.out.1 HW.out.1 hg0⟩
end Go.Proofs.Ytpdpejlcilnafaa.kit
