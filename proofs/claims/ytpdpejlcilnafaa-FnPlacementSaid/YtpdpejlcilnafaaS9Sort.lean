/-
  Chapter 9: the program's comparison of spares, and the sort by it: which spare comes first.
-/
import Derived.Test.YtpdpejlcilnafaaS9Impl
import Derived.Test.YtpdpejlcilnafaaSortInt
import Derived.Test.YtpdpejlcilnafaaInvR
import Derived.Deep.RegionWith
namespace Go.Proofs.Ytpdpejlcilnafaa.kit
open Go.ChangeShapes Go.WideShapes Go.ChangeAt Go.RowKit Go.Sort Go.Shelf
set_option linter.unusedVariables false
set_option linter.unusedSimpArgs false

def orI3 (x y z : Int) : Int := if x ≠ 0 then x else if y ≠ 0 then y else z
set_option maxRecDepth 100000 in
set_option maxHeartbeats 4000000 in
/-- cmp.Or of three numbers in a row -/
theorem cmpOr3 (g : Nat) (x y z : Int) (w : World) (h0 : w.cell? ⟨g, 0, none⟩ = some (.int .i64 x)) (h1 : w.cell? ⟨g, 1, none⟩ = some (.int .i64 y)) (h2 : w.cell? ⟨g, 2, none⟩ = some (.int .i64 z)) :
    Calls Try.prog 75 #[.slice (some ⟨g, 0, none⟩) 3 3] w fun e w' => e = .returned (.int .i64 (orI3 x y z)) ∧ w = w' := by
  by_cases hx : x = 0
  · subst hx
    by_cases hy : y = 0
    · subst hy
      by_cases hz : z = 0
      · subst hz
        go_enter Try.func75, Try.ntmps75
        go_wp2_with fail
        refine wp_loop_rounds 4 ?_
        iterate 4 (rw [rounds_succ]; go_wp2_with fail)
        go_ret
        exact ⟨rfl, rfl⟩
      · have tz : (z != 0) = true := by simp [hz]
        have HF := Lib.hid (show orI3 0 0 z = z by simp [orI3])
        clear hz
        go_enter Try.func75, Try.ntmps75
        go_wp2_with fail
        refine wp_loop_rounds 3 ?_
        iterate 3 (rw [rounds_succ]; go_wp2_with fail)
        go_ret
        exact ⟨by rw [HF.out]; rfl, rfl⟩
    · have ty : (y != 0) = true := by simp [hy]
      have HF := Lib.hid (show orI3 0 y z = y by simp [orI3, hy])
      clear hy
      go_enter Try.func75, Try.ntmps75
      go_wp2_with fail
      refine wp_loop_rounds 2 ?_
      iterate 2 (rw [rounds_succ]; go_wp2_with fail)
      go_ret
      exact ⟨by rw [HF.out]; rfl, rfl⟩
  · have tx : (x != 0) = true := by simp [hx]
    have HF := Lib.hid (show orI3 x y z = x by simp [orI3, hx])
    clear hx
    go_enter Try.func75, Try.ntmps75
    go_wp2_with fail
    refine wp_loop_rounds 1 ?_
    iterate 1 (rw [rounds_succ]; go_wp2_with fail)
    go_ret
    exact ⟨by rw [HF.out]; rfl, rfl⟩
/-- draws, and blocks behind all others -/
def Grew (w w' : World) : Prop := ∃ q os, w' = grow (w.drewN q) os
theorem Grew.refl (w : World) : Grew w w := ⟨0, #[], by rw [grow_empty]; rfl⟩
theorem Grew.drew (w : World) : Grew w w.drew := ⟨1, #[], by rw [grow_empty]; rfl⟩
theorem Grew.drewN (w : World) (q : Nat) : Grew w (w.drewN q) := ⟨q, #[], by rw [grow_empty]⟩
theorem Grew.alloc (w : World) (o : Obj) : Grew w (w.alloc o) := ⟨0, #[o], by rw [alloc_eq_grow]; rfl⟩
theorem Grew.trans {a b c : World} (h : Grew a b) (k : Grew b c) : Grew a c := by
  obtain ⟨q, os, rfl⟩ := h
  obtain ⟨q', os', rfl⟩ := k
  refine ⟨q + q', os ++ os', ?_⟩
  rw [← grow_grow]
  unfold grow World.drewN
  simp [Nat.add_assoc]
theorem Grew.below {w w' : World} (h : Grew w w') : Below w.heap.size w w' := by
  obtain ⟨q, os, rfl⟩ := h
  exact ⟨rfl, rfl, rfl, by show w.heap.size ≤ (w.heap ++ os).size; simp, fun k hk => heap_grow_old _ _ hk⟩
theorem compareG (x y : Int) (w : World) : Calls Try.prog 76 #[.int .i64 x, .int .i64 y] w fun e w' => e = .returned (.int .i64 (Lib.compareInt x y)) ∧ Grew w w' :=
  (Try.cmp_Compare_int x y w).mono fun e w' ⟨h1, h2⟩ => ⟨h1, by subst h2; exact Grew.refl _⟩
theorem containsI (base : Nat) (v : Value) (l : List Int) (x : Int) (w : World) (hl : l.length ≤ 4194304) (hown : OwnI base w v l) :
    Calls Try.prog 70 #[v, .int .i64 x] w fun e w' => e = .returned (.bool (decide (x ∈ l))) ∧ w = w' := by
  have he : decide (x ∈ l) = l.contains x := by rw [Bool.eq_iff_iff]; simp
  rw [he]
  by_cases h0 : 0 < l.length
  · obtain ⟨g, c, rfl, hc1, hc2, _, _⟩ := hown.there h0
    have C1 := Try.slices_Contains_int g 0 l.length c l x w (Nat.le_refl _) (by omega) hown.cells
    rw [List.take_length] at C1
    exact C1.mono fun e w' ⟨h1, h2⟩ => ⟨h1, h2.symm⟩
  · obtain rfl : l = [] := List.eq_nil_of_length_eq_zero (by omega)
    obtain ⟨a, c, rfl, _⟩ := hown.form
    exact (Try.slices_Contains_int_empty a c x w).mono fun e w' ⟨h1, h2⟩ => ⟨h1, h2.symm⟩
/-- what the comparison has captured -/
structure Clos (w : World) (p2 p3 p5 : Nat) (aL : Option Addr) (cL : Nat) (L : List Pla) (bR : Nat) (yR : Option Addr) (qR : Nat) (R : List Int) : Prop where
  l : w.cell? ⟨p2, 0, none⟩ = some (.slice aL L.length cL)
  t : w.cell? ⟨p3, 0, none⟩ = some (.slice yR R.length qR)
  f : w.cell? ⟨p5, 0, none⟩ = some (.func (Fn.func 73) #[] #[.pointer (some ⟨p3, 0, none⟩), .pointer (some ⟨p2, 0, none⟩)])
  a : AtQ w aL L
  r : OwnI bR w (.slice yR R.length qR) R
theorem cell_later {w w' : World} {p : Addr} {v : Value} (h : w.cell? p = some v) (hb : Below w.heap.size w w') : w'.cell? p = some v := (hb.cell (World.block_lt_of_cell? w _ h)).trans h
theorem Clos.below {w w' : World} {p2 p3 p5 : Nat} {aL : Option Addr} {cL : Nat} {L : List Pla} {bR : Nat} {yR : Option Addr} {qR : Nat} {R : List Int} (h : Clos w p2 p3 p5 aL cL L bR yR qR R) (hb : Below w.heap.size w w') : Clos w' p2 p3 p5 aL cL L bR yR qR R :=
  ⟨cell_later h.l hb, cell_later h.t hb, cell_later h.f hb, h.a.later hb, h.r.later hb⟩
theorem Clos.later {w w' : World} {p2 p3 p5 : Nat} {aL : Option Addr} {cL : Nat} {L : List Pla} {bR : Nat} {yR : Option Addr} {qR : Nat} {R : List Int} (h : Clos w p2 p3 p5 aL cL L bR yR qR R) (hb : Grew w w') : Clos w' p2 p3 p5 aL cL L bR yR qR R := h.below hb.below
set_option maxRecDepth 100000 in
set_option maxHeartbeats 4000000 in
theorem rankClosure {w : World} {p2 p3 p5 : Nat} {aL : Option Addr} {cL : Nat} {L : List Pla} {bR : Nat} {yR : Option Addr} {qR : Nat} {R : List Int} (h : Clos w p2 p3 p5 aL cL L bR yR qR R) (hL : L.length ≤ 2097152) (hR : R.length ≤ 4194304) (i : Nat) (hi : i < L.length) :
    Calls Try.prog 73 #[.int .i64 i, .pointer (some ⟨p3, 0, none⟩), .pointer (some ⟨p2, 0, none⟩)] w fun e w' => e = .returned (.int .i64 (rankP L R (i : Int))) ∧ Grew w w' := by
  obtain ⟨g, o, rfl, hg, hc⟩ := h.a i hi
  have c0 := hc.c0
  have hr : rankP L R (i : Int) = if (gQ L i).r ∈ R then 1 else 0 := by unfold rankP rkP; rw [Int.toNat_natCast]
  generalize (gQ L i).r = z at *
  have kl := h.l; have kt := h.t
  have i1 : (i : Int) < (L.length : Int) := by omega
  by_cases hz : z ∈ R
  · have HF := Lib.hid (hr.trans (if_pos hz))
    have C1 : ∀ n : Nat, Hid (Calls Try.prog 70 #[.slice yR R.length qR, .int .i64 z] (w.drewN n) fun e w' => e = .returned (.bool true) ∧ w.drewN n = w') := fun n => by
      have := containsI bR _ R z (w.drewN n) hR (h.r.later (Grew.drewN w n).below)
      rw [decide_eq_true hz] at this
      exact Lib.hid this
    clear hc hr hz h
    go_enter Try.func73, Try.ntmps73
    go_wp2_with fail
    go_quiet ((go_at_call 70; exact quiet_eq (C1 _).out))
    go_wp2_with fail
    go_ret
    exact ⟨by rw [HF.out]; rfl, Grew.drewN _ _⟩
  · have HF := Lib.hid (hr.trans (if_neg hz))
    have C1 : ∀ n : Nat, Hid (Calls Try.prog 70 #[.slice yR R.length qR, .int .i64 z] (w.drewN n) fun e w' => e = .returned (.bool false) ∧ w.drewN n = w') := fun n => by
      have := containsI bR _ R z (w.drewN n) hR (h.r.later (Grew.drewN w n).below)
      rw [decide_eq_false hz] at this
      exact Lib.hid this
    clear hc hr hz h
    go_enter Try.func73, Try.ntmps73
    go_wp2_with fail
    go_quiet ((go_at_call 70; exact quiet_eq (C1 _).out))
    go_wp2_with fail
    go_ret
    exact ⟨by rw [HF.out]; rfl, Grew.drewN _ _⟩
def isB3 (x y z : Value) : Value → World → Prop := fun v w => ∃ b : Nat, v = .slice (some ⟨b, 0, none⟩) 3 3 ∧ w.cell? ⟨b, 0, none⟩ = some x ∧ w.cell? ⟨b, 1, none⟩ = some y ∧ w.cell? ⟨b, 2, none⟩ = some z
theorem isB3_monoR (x y z : Value) : MonoR Grew (isB3 x y z) := fun _ _ _ ⟨b, h, h0, h1, h2⟩ hd => ⟨b, h, cell_later h0 hd.below, cell_later h1 hd.below, cell_later h2 hd.below⟩
theorem cell3 (w : World) (x y z : Value) (t : TypeId) (k : Nat) {v : Value} (hv : (#[x, y, z] : Array Value)[k]? = some v) : (w.alloc (.cells #[x, y, z] t)).cell? ⟨w.heap.size, k, none⟩ = some v := by rw [World.cell?_alloc_at _ _ _ _ rfl]; exact hv
theorem cmpP_eq (L : List Pla) (R : List Int) (i j : Nat) : orI3 (Lib.compareInt (rankP L R (i : Int)) (rankP L R (j : Int))) (Lib.compareInt (gQ L i).l (gQ L j).l) (Lib.compareInt (i : Int) (j : Int)) = cmpP L R (i : Int) (j : Int) := by
  unfold cmpP ldP orI3
  rw [Int.toNat_natCast, Int.toNat_natCast]
set_option maxRecDepth 100000 in
set_option maxHeartbeats 8000000 in
theorem cmpClosure {w : World} {p2 p3 p5 : Nat} {aL : Option Addr} {cL : Nat} {L : List Pla} {bR : Nat} {yR : Option Addr} {qR : Nat} {R : List Int} (h : Clos w p2 p3 p5 aL cL L bR yR qR R) (hL : L.length ≤ 2097152) (hR : R.length ≤ 4194304) (ka kb : Nat) (hka : ka < L.length) (hkb : kb < L.length) :
    Calls Try.prog 74 #[.int .i64 ka, .int .i64 kb, .pointer (some ⟨p5, 0, none⟩), .pointer (some ⟨p2, 0, none⟩)] w fun e w' => e = .returned (.int .i64 (cmpP L R (ka : Int) (kb : Int))) ∧ Grew w w' := by
  obtain ⟨g, o, rfl, hg, hci⟩ := h.a ka hka
  obtain ⟨g', o', he, hg', hcj⟩ := h.a kb hkb
  cases he
  have Hka := Lib.hid hci
  have Hkb := Lib.hid hcj
  have HC := Lib.hid h
  have i1 : (ka : Int) < (L.length : Int) := by omega
  have i2 : (kb : Int) < (L.length : Int) := by omega
  clear hci hcj h
  go_enter Try.func74, Try.ntmps74
  go_wp2_with fail
  refine region_reachR (m := 23) (Grew) (Grew.drew _) (fun _ _ _ h k => Grew.trans h k) [7, 8, 9, 10, 11, 12, 13, 14, 15, 16, 17, 18, 19, 20, 21, 22, 23, 24, 25, 26, 27, 28, 29] (Fs [isV (.func (Fn.func 73) #[] #[.pointer (some ⟨p3, 0, none⟩), .pointer (some ⟨p2, 0, none⟩)]), isV (.int .i64 (ka : Int)), isV (.int .i64 (rankP L R (ka : Int))), isV (.func (Fn.func 73) #[] #[.pointer (some ⟨p3, 0, none⟩), .pointer (some ⟨p2, 0, none⟩)]), isV (.int .i64 (kb : Int)), isV (.int .i64 (rankP L R (kb : Int))), isV (.int .i64 (Lib.compareInt (rankP L R (ka : Int)) (rankP L R (kb : Int)))), isV (.slice (some ⟨g, o, none⟩) L.length cL), isV (.int .i64 (ka : Int)), isV (.pointer (some ⟨g, o + ka * 3, none⟩)), isV (.pointer (some ⟨g, o + ka * 3 + 2, none⟩)), isV (.int .i64 (gQ L ka).l), isV (.slice (some ⟨g, o, none⟩) L.length cL), isV (.int .i64 (kb : Int)), isV (.pointer (some ⟨g, o + kb * 3, none⟩)), isV (.pointer (some ⟨g, o + kb * 3 + 2, none⟩)), isV (.int .i64 (gQ L kb).l), isV (.int .i64 (Lib.compareInt (gQ L ka).l (gQ L kb).l)), isV (.int .i64 (ka : Int)), isV (.int .i64 (kb : Int)), isV (.int .i64 (Lib.compareInt (ka : Int) (kb : Int))), isB3 (.int .i64 (Lib.compareInt (rankP L R (ka : Int)) (rankP L R (kb : Int)))) (.int .i64 (Lib.compareInt (gQ L ka).l (gQ L kb).l)) (.int .i64 (Lib.compareInt (ka : Int) (kb : Int))), isV (.int .i64 (cmpP L R (ka : Int) (kb : Int)))]) (by kernel_rfl) (by decide) rfl (by decide) (by kernel_rfl) (by kernel_rfl) (fun _ _ _ _ _ h => h) (Fs_monoR ⟨isV_monoR _ _, isV_monoR _ _, isV_monoR _ _, isV_monoR _ _, isV_monoR _ _, isV_monoR _ _, isV_monoR _ _, isV_monoR _ _, isV_monoR _ _, isV_monoR _ _, isV_monoR _ _, isV_monoR _ _, isV_monoR _ _, isV_monoR _ _, isV_monoR _ _, isV_monoR _ _, isV_monoR _ _, isV_monoR _ _, isV_monoR _ _, isV_monoR _ _, isV_monoR _ _, isB3_monoR _ _ _, isV_monoR _ _, trivial⟩) ?step ?tail
  case step =>
    intro i hi vs wq hBq hd
    by_cases h22 : i = 22
    · subst h22
      have hl : isB3 (.int .i64 (Lib.compareInt (rankP L R (ka : Int)) (rankP L R (kb : Int)))) (.int .i64 (Lib.compareInt (gQ L ka).l (gQ L kb).l)) (.int .i64 (Lib.compareInt (ka : Int) (kb : Int))) (vs 21) wq := hd 21 (List.contains_iff_mem.1 (by kernel_rfl))
      cases hl with | intro bb hl =>
      have es := hl.1
      have ks := cmpOr3 bb _ _ _ wq hl.2.1 hl.2.2.1 hl.2.2.2
      rw [cmpP_eq] at ks
      clear hl
      refine wpOp_step (o := _) rfl (fun K' hK => ?_)
      have HK := Lib.hid hK
      clear hK
      simp only [lay, Act.put, List.setIfInBounds_toArray, List.set_cons_zero, List.set_cons_succ, List.getD_cons_zero, List.getD_cons_succ, id_eq]
      rw [es]
      go_simp
      go_at_call 75
      refine ks.mono ?_
      rintro e w2 ⟨rfl, rfl⟩
      refine HK.out _ _ ⟨_, ?_, Grew.refl _, rfl⟩
      simp only [lay, Act.put, List.setIfInBounds_toArray, List.set_cons_zero, List.set_cons_succ, List.getD_cons_zero, List.getD_cons_succ, id_eq]
      rw [es]
    replace hi : i < 22 := by omega
    clear h22
    by_cases h21 : i = 21
    · subst h21
      have e6' : vs 6 = .int .i64 (Lib.compareInt (rankP L R (ka : Int)) (rankP L R (kb : Int))) := hd 6 (List.contains_iff_mem.1 (by kernel_rfl))
      have e17' : vs 17 = .int .i64 (Lib.compareInt (gQ L ka).l (gQ L kb).l) := hd 17 (List.contains_iff_mem.1 (by kernel_rfl))
      have e20' : vs 20 = .int .i64 (Lib.compareInt (ka : Int) (kb : Int)) := hd 20 (List.contains_iff_mem.1 (by kernel_rfl))
      refine wpOp_step (o := _) rfl (fun K' hK => ?_)
      have HK := Lib.hid hK
      clear hK
      simp only [lay, Act.put, List.setIfInBounds_toArray, List.set_cons_zero, List.set_cons_succ, List.getD_cons_zero, List.getD_cons_succ, id_eq]
      rw [e6', e17', e20']
      go_simp
      refine HK.out _ _ ⟨_, ?_, Grew.alloc _ _, ⟨_, rfl, cell3 _ _ _ _ _ 0 rfl, cell3 _ _ _ _ _ 1 rfl, cell3 _ _ _ _ _ 2 rfl⟩⟩
      simp only [lay, Act.put, List.setIfInBounds_toArray, List.set_cons_zero, List.set_cons_succ, List.getD_cons_zero, List.getD_cons_succ, id_eq]
      rw [e6', e17', e20']
    replace hi : i < 21 := by omega
    clear h21
    by_cases h20 : i = 20
    · subst h20
      have e18' : vs 18 = .int .i64 (ka : Int) := hd 18 (List.contains_iff_mem.1 (by kernel_rfl))
      have e19' : vs 19 = .int .i64 (kb : Int) := hd 19 (List.contains_iff_mem.1 (by kernel_rfl))
      refine wpOp_step (o := _) rfl (fun K' hK => ?_)
      have HK := Lib.hid hK
      clear hK
      simp only [lay, Act.put, List.setIfInBounds_toArray, List.set_cons_zero, List.set_cons_succ, List.getD_cons_zero, List.getD_cons_succ, id_eq]
      rw [e18', e19']
      go_simp
      go_at_call 76
      refine (compareG _ _ _).mono ?_
      rintro e w2 ⟨rfl, hb⟩
      refine HK.out _ _ ⟨_, ?_, hb, rfl⟩
      simp only [lay, Act.put, List.setIfInBounds_toArray, List.set_cons_zero, List.set_cons_succ, List.getD_cons_zero, List.getD_cons_succ, id_eq]
      rw [e18', e19']
    replace hi : i < 20 := by omega
    clear h20
    by_cases h19 : i = 19
    · subst h19
      refine wpOp_step (o := _) rfl (fun K' hK => ?_)
      have HK := Lib.hid hK
      clear hK
      simp only [lay, Act.put, List.setIfInBounds_toArray, List.set_cons_zero, List.set_cons_succ, List.getD_cons_zero, List.getD_cons_succ, id_eq]
      go_simp
      refine HK.out _ _ ⟨_, ?_, Grew.refl _, rfl⟩
      simp only [lay, Act.put, List.setIfInBounds_toArray, List.set_cons_zero, List.set_cons_succ, List.getD_cons_zero, List.getD_cons_succ, id_eq]
    replace hi : i < 19 := by omega
    clear h19
    by_cases h18 : i = 18
    · subst h18
      refine wpOp_step (o := _) rfl (fun K' hK => ?_)
      have HK := Lib.hid hK
      clear hK
      simp only [lay, Act.put, List.setIfInBounds_toArray, List.set_cons_zero, List.set_cons_succ, List.getD_cons_zero, List.getD_cons_succ, id_eq]
      go_simp
      refine HK.out _ _ ⟨_, ?_, Grew.refl _, rfl⟩
      simp only [lay, Act.put, List.setIfInBounds_toArray, List.set_cons_zero, List.set_cons_succ, List.getD_cons_zero, List.getD_cons_succ, id_eq]
    replace hi : i < 18 := by omega
    clear h18
    by_cases h17 : i = 17
    · subst h17
      have e11' : vs 11 = .int .i64 (gQ L ka).l := hd 11 (List.contains_iff_mem.1 (by kernel_rfl))
      have e16' : vs 16 = .int .i64 (gQ L kb).l := hd 16 (List.contains_iff_mem.1 (by kernel_rfl))
      refine wpOp_step (o := _) rfl (fun K' hK => ?_)
      have HK := Lib.hid hK
      clear hK
      simp only [lay, Act.put, List.setIfInBounds_toArray, List.set_cons_zero, List.set_cons_succ, List.getD_cons_zero, List.getD_cons_succ, id_eq]
      rw [e11', e16']
      go_simp
      go_at_call 76
      refine (compareG _ _ _).mono ?_
      rintro e w2 ⟨rfl, hb⟩
      refine HK.out _ _ ⟨_, ?_, hb, rfl⟩
      simp only [lay, Act.put, List.setIfInBounds_toArray, List.set_cons_zero, List.set_cons_succ, List.getD_cons_zero, List.getD_cons_succ, id_eq]
      rw [e11', e16']
    replace hi : i < 17 := by omega
    clear h17
    by_cases h16 : i = 16
    · subst h16
      have e15' : vs 15 = .pointer (some ⟨g, o + kb * 3 + 2, none⟩) := hd 15 (List.contains_iff_mem.1 (by kernel_rfl))
      have kc := (Hkb.out.below hBq.below hg).c2
      refine wpOp_step (o := _) rfl (fun K' hK => ?_)
      have HK := Lib.hid hK
      clear hK
      simp only [lay, Act.put, List.setIfInBounds_toArray, List.set_cons_zero, List.set_cons_succ, List.getD_cons_zero, List.getD_cons_succ, id_eq]
      rw [e15']
      go_simp
      refine HK.out _ _ ⟨_, ?_, Grew.refl _, rfl⟩
      simp only [lay, Act.put, List.setIfInBounds_toArray, List.set_cons_zero, List.set_cons_succ, List.getD_cons_zero, List.getD_cons_succ, id_eq]
      rw [e15']
    replace hi : i < 16 := by omega
    clear h16
    by_cases h15 : i = 15
    · subst h15
      have e14' : vs 14 = .pointer (some ⟨g, o + kb * 3, none⟩) := hd 14 (List.contains_iff_mem.1 (by kernel_rfl))
      refine wpOp_step (o := _) rfl (fun K' hK => ?_)
      have HK := Lib.hid hK
      clear hK
      simp only [lay, Act.put, List.setIfInBounds_toArray, List.set_cons_zero, List.set_cons_succ, List.getD_cons_zero, List.getD_cons_succ, id_eq]
      rw [e14']
      go_simp
      refine HK.out _ _ ⟨_, ?_, Grew.refl _, rfl⟩
      simp only [lay, Act.put, List.setIfInBounds_toArray, List.set_cons_zero, List.set_cons_succ, List.getD_cons_zero, List.getD_cons_succ, id_eq]
      rw [e14']
    replace hi : i < 15 := by omega
    clear h15
    by_cases h14 : i = 14
    · subst h14
      have e12' : vs 12 = .slice (some ⟨g, o, none⟩) L.length cL := hd 12 (List.contains_iff_mem.1 (by kernel_rfl))
      have e13' : vs 13 = .int .i64 (kb : Int) := hd 13 (List.contains_iff_mem.1 (by kernel_rfl))
      refine wpOp_step (o := _) rfl (fun K' hK => ?_)
      have HK := Lib.hid hK
      clear hK
      simp only [lay, Act.put, List.setIfInBounds_toArray, List.set_cons_zero, List.set_cons_succ, List.getD_cons_zero, List.getD_cons_succ, id_eq]
      rw [e12', e13']
      go_simp
      refine HK.out _ _ ⟨_, ?_, Grew.refl _, rfl⟩
      simp only [lay, Act.put, List.setIfInBounds_toArray, List.set_cons_zero, List.set_cons_succ, List.getD_cons_zero, List.getD_cons_succ, id_eq]
      rw [e12', e13']
    replace hi : i < 14 := by omega
    clear h14
    by_cases h13 : i = 13
    · subst h13
      refine wpOp_step (o := _) rfl (fun K' hK => ?_)
      have HK := Lib.hid hK
      clear hK
      simp only [lay, Act.put, List.setIfInBounds_toArray, List.set_cons_zero, List.set_cons_succ, List.getD_cons_zero, List.getD_cons_succ, id_eq]
      go_simp
      refine HK.out _ _ ⟨_, ?_, Grew.refl _, rfl⟩
      simp only [lay, Act.put, List.setIfInBounds_toArray, List.set_cons_zero, List.set_cons_succ, List.getD_cons_zero, List.getD_cons_succ, id_eq]
    replace hi : i < 13 := by omega
    clear h13
    by_cases h12 : i = 12
    · subst h12
      have kl := (HC.out.later hBq).l
      refine wpOp_step (o := _) rfl (fun K' hK => ?_)
      have HK := Lib.hid hK
      clear hK
      simp only [lay, Act.put, List.setIfInBounds_toArray, List.set_cons_zero, List.set_cons_succ, List.getD_cons_zero, List.getD_cons_succ, id_eq]
      go_simp
      refine HK.out _ _ ⟨_, ?_, Grew.refl _, rfl⟩
      simp only [lay, Act.put, List.setIfInBounds_toArray, List.set_cons_zero, List.set_cons_succ, List.getD_cons_zero, List.getD_cons_succ, id_eq]
    replace hi : i < 12 := by omega
    clear h12
    by_cases h11 : i = 11
    · subst h11
      have e10' : vs 10 = .pointer (some ⟨g, o + ka * 3 + 2, none⟩) := hd 10 (List.contains_iff_mem.1 (by kernel_rfl))
      have kc := (Hka.out.below hBq.below hg).c2
      refine wpOp_step (o := _) rfl (fun K' hK => ?_)
      have HK := Lib.hid hK
      clear hK
      simp only [lay, Act.put, List.setIfInBounds_toArray, List.set_cons_zero, List.set_cons_succ, List.getD_cons_zero, List.getD_cons_succ, id_eq]
      rw [e10']
      go_simp
      refine HK.out _ _ ⟨_, ?_, Grew.refl _, rfl⟩
      simp only [lay, Act.put, List.setIfInBounds_toArray, List.set_cons_zero, List.set_cons_succ, List.getD_cons_zero, List.getD_cons_succ, id_eq]
      rw [e10']
    replace hi : i < 11 := by omega
    clear h11
    by_cases h10 : i = 10
    · subst h10
      have e9' : vs 9 = .pointer (some ⟨g, o + ka * 3, none⟩) := hd 9 (List.contains_iff_mem.1 (by kernel_rfl))
      refine wpOp_step (o := _) rfl (fun K' hK => ?_)
      have HK := Lib.hid hK
      clear hK
      simp only [lay, Act.put, List.setIfInBounds_toArray, List.set_cons_zero, List.set_cons_succ, List.getD_cons_zero, List.getD_cons_succ, id_eq]
      rw [e9']
      go_simp
      refine HK.out _ _ ⟨_, ?_, Grew.refl _, rfl⟩
      simp only [lay, Act.put, List.setIfInBounds_toArray, List.set_cons_zero, List.set_cons_succ, List.getD_cons_zero, List.getD_cons_succ, id_eq]
      rw [e9']
    replace hi : i < 10 := by omega
    clear h10
    by_cases h9 : i = 9
    · subst h9
      have e7' : vs 7 = .slice (some ⟨g, o, none⟩) L.length cL := hd 7 (List.contains_iff_mem.1 (by kernel_rfl))
      have e8' : vs 8 = .int .i64 (ka : Int) := hd 8 (List.contains_iff_mem.1 (by kernel_rfl))
      refine wpOp_step (o := _) rfl (fun K' hK => ?_)
      have HK := Lib.hid hK
      clear hK
      simp only [lay, Act.put, List.setIfInBounds_toArray, List.set_cons_zero, List.set_cons_succ, List.getD_cons_zero, List.getD_cons_succ, id_eq]
      rw [e7', e8']
      go_simp
      refine HK.out _ _ ⟨_, ?_, Grew.refl _, rfl⟩
      simp only [lay, Act.put, List.setIfInBounds_toArray, List.set_cons_zero, List.set_cons_succ, List.getD_cons_zero, List.getD_cons_succ, id_eq]
      rw [e7', e8']
    replace hi : i < 9 := by omega
    clear h9
    by_cases h8 : i = 8
    · subst h8
      refine wpOp_step (o := _) rfl (fun K' hK => ?_)
      have HK := Lib.hid hK
      clear hK
      simp only [lay, Act.put, List.setIfInBounds_toArray, List.set_cons_zero, List.set_cons_succ, List.getD_cons_zero, List.getD_cons_succ, id_eq]
      go_simp
      refine HK.out _ _ ⟨_, ?_, Grew.refl _, rfl⟩
      simp only [lay, Act.put, List.setIfInBounds_toArray, List.set_cons_zero, List.set_cons_succ, List.getD_cons_zero, List.getD_cons_succ, id_eq]
    replace hi : i < 8 := by omega
    clear h8
    by_cases h7 : i = 7
    · subst h7
      have kl := (HC.out.later hBq).l
      refine wpOp_step (o := _) rfl (fun K' hK => ?_)
      have HK := Lib.hid hK
      clear hK
      simp only [lay, Act.put, List.setIfInBounds_toArray, List.set_cons_zero, List.set_cons_succ, List.getD_cons_zero, List.getD_cons_succ, id_eq]
      go_simp
      refine HK.out _ _ ⟨_, ?_, Grew.refl _, rfl⟩
      simp only [lay, Act.put, List.setIfInBounds_toArray, List.set_cons_zero, List.set_cons_succ, List.getD_cons_zero, List.getD_cons_succ, id_eq]
    replace hi : i < 7 := by omega
    clear h7
    by_cases h6 : i = 6
    · subst h6
      have e2' : vs 2 = .int .i64 (rankP L R (ka : Int)) := hd 2 (List.contains_iff_mem.1 (by kernel_rfl))
      have e5' : vs 5 = .int .i64 (rankP L R (kb : Int)) := hd 5 (List.contains_iff_mem.1 (by kernel_rfl))
      refine wpOp_step (o := _) rfl (fun K' hK => ?_)
      have HK := Lib.hid hK
      clear hK
      simp only [lay, Act.put, List.setIfInBounds_toArray, List.set_cons_zero, List.set_cons_succ, List.getD_cons_zero, List.getD_cons_succ, id_eq]
      rw [e2', e5']
      go_simp
      go_at_call 76
      refine (compareG _ _ _).mono ?_
      rintro e w2 ⟨rfl, hb⟩
      refine HK.out _ _ ⟨_, ?_, hb, rfl⟩
      simp only [lay, Act.put, List.setIfInBounds_toArray, List.set_cons_zero, List.set_cons_succ, List.getD_cons_zero, List.getD_cons_succ, id_eq]
      rw [e2', e5']
    replace hi : i < 6 := by omega
    clear h6
    by_cases h5 : i = 5
    · subst h5
      have e3' : vs 3 = .func (Fn.func 73) #[] #[.pointer (some ⟨p3, 0, none⟩), .pointer (some ⟨p2, 0, none⟩)] := hd 3 (List.contains_iff_mem.1 (by kernel_rfl))
      have e4' : vs 4 = .int .i64 (kb : Int) := hd 4 (List.contains_iff_mem.1 (by kernel_rfl))
      refine wpOp_step (o := _) rfl (fun K' hK => ?_)
      have HK := Lib.hid hK
      clear hK
      simp only [lay, Act.put, List.setIfInBounds_toArray, List.set_cons_zero, List.set_cons_succ, List.getD_cons_zero, List.getD_cons_succ, id_eq]
      rw [e3', e4']
      go_simp
      go_at_call 73
      refine (rankClosure (HC.out.later hBq) hL hR kb hkb).mono ?_
      rintro e w2 ⟨rfl, hb⟩
      refine HK.out _ _ ⟨_, ?_, hb, rfl⟩
      simp only [lay, Act.put, List.setIfInBounds_toArray, List.set_cons_zero, List.set_cons_succ, List.getD_cons_zero, List.getD_cons_succ, id_eq]
      rw [e3', e4']
    replace hi : i < 5 := by omega
    clear h5
    by_cases h4 : i = 4
    · subst h4
      refine wpOp_step (o := _) rfl (fun K' hK => ?_)
      have HK := Lib.hid hK
      clear hK
      simp only [lay, Act.put, List.setIfInBounds_toArray, List.set_cons_zero, List.set_cons_succ, List.getD_cons_zero, List.getD_cons_succ, id_eq]
      go_simp
      refine HK.out _ _ ⟨_, ?_, Grew.refl _, rfl⟩
      simp only [lay, Act.put, List.setIfInBounds_toArray, List.set_cons_zero, List.set_cons_succ, List.getD_cons_zero, List.getD_cons_succ, id_eq]
    replace hi : i < 4 := by omega
    clear h4
    by_cases h3 : i = 3
    · subst h3
      have kf := (HC.out.later hBq).f
      refine wpOp_step (o := _) rfl (fun K' hK => ?_)
      have HK := Lib.hid hK
      clear hK
      simp only [lay, Act.put, List.setIfInBounds_toArray, List.set_cons_zero, List.set_cons_succ, List.getD_cons_zero, List.getD_cons_succ, id_eq]
      go_simp
      refine HK.out _ _ ⟨_, ?_, Grew.refl _, rfl⟩
      simp only [lay, Act.put, List.setIfInBounds_toArray, List.set_cons_zero, List.set_cons_succ, List.getD_cons_zero, List.getD_cons_succ, id_eq]
    replace hi : i < 3 := by omega
    clear h3
    by_cases h2 : i = 2
    · subst h2
      have e0' : vs 0 = .func (Fn.func 73) #[] #[.pointer (some ⟨p3, 0, none⟩), .pointer (some ⟨p2, 0, none⟩)] := hd 0 (List.contains_iff_mem.1 (by kernel_rfl))
      have e1' : vs 1 = .int .i64 (ka : Int) := hd 1 (List.contains_iff_mem.1 (by kernel_rfl))
      refine wpOp_step (o := _) rfl (fun K' hK => ?_)
      have HK := Lib.hid hK
      clear hK
      simp only [lay, Act.put, List.setIfInBounds_toArray, List.set_cons_zero, List.set_cons_succ, List.getD_cons_zero, List.getD_cons_succ, id_eq]
      rw [e0', e1']
      go_simp
      go_at_call 73
      refine (rankClosure (HC.out.later hBq) hL hR ka hka).mono ?_
      rintro e w2 ⟨rfl, hb⟩
      refine HK.out _ _ ⟨_, ?_, hb, rfl⟩
      simp only [lay, Act.put, List.setIfInBounds_toArray, List.set_cons_zero, List.set_cons_succ, List.getD_cons_zero, List.getD_cons_succ, id_eq]
      rw [e0', e1']
    replace hi : i < 2 := by omega
    clear h2
    by_cases h1 : i = 1
    · subst h1
      refine wpOp_step (o := _) rfl (fun K' hK => ?_)
      have HK := Lib.hid hK
      clear hK
      simp only [lay, Act.put, List.setIfInBounds_toArray, List.set_cons_zero, List.set_cons_succ, List.getD_cons_zero, List.getD_cons_succ, id_eq]
      go_simp
      refine HK.out _ _ ⟨_, ?_, Grew.refl _, rfl⟩
      simp only [lay, Act.put, List.setIfInBounds_toArray, List.set_cons_zero, List.set_cons_succ, List.getD_cons_zero, List.getD_cons_succ, id_eq]
    replace hi : i < 1 := by omega
    clear h1
    by_cases h0 : i = 0
    · subst h0
      have kf := (HC.out.later hBq).f
      refine wpOp_step (o := _) rfl (fun K' hK => ?_)
      have HK := Lib.hid hK
      clear hK
      simp only [lay, Act.put, List.setIfInBounds_toArray, List.set_cons_zero, List.set_cons_succ, List.getD_cons_zero, List.getD_cons_succ, id_eq]
      go_simp
      refine HK.out _ _ ⟨_, ?_, Grew.refl _, rfl⟩
      simp only [lay, Act.put, List.setIfInBounds_toArray, List.set_cons_zero, List.set_cons_succ, List.getD_cons_zero, List.getD_cons_succ, id_eq]
    replace hi : i < 0 := by omega
    clear h0
    exact absurd hi (Nat.not_lt_zero _)
  case tail =>
    intro vs wq hBq hf
    have e22 : vs 22 = .int .i64 (cmpP L R (ka : Int) (kb : Int)) := hf 22 (by decide)
    simp only [lay, Act.put, List.setIfInBounds_toArray, List.set_cons_zero, List.set_cons_succ, List.getD_cons_zero, List.getD_cons_succ, id_eq]
    rw [e22]
    clear e22
    refine any_all (rs := [23]) (by kernel_rfl) (by simp) ?_
    intro i hi
    simp only [List.mem_cons, List.not_mem_nil, or_false] at hi
    subst hi
    refine wpOp_step (o := _) rfl (fun K' hK => ?_)
    have HK := Lib.hid hK
    clear hK
    go_simp
    refine HK.out _ _ ?_
    clear HK K'
    try simp only [Act.put, List.setIfInBounds_toArray, List.set_cons_zero, List.set_cons_succ]
    refine any_done (by kernel_rfl) ?_ _
    clear hf
    have HW := Lib.hid hBq
    clear hBq
    go_wp2_with fail
    go_ret
    exact ⟨rfl, HW.out⟩
end Go.Proofs.Ytpdpejlcilnafaa.kit
