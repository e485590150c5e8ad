/-
  Chapter 10: configurations and acceptors copied, by the specification and by the program.
-/
import Derived.Test.YtgjebjoaemeeoaaS10Math
import Derived.Test.YtgjebjoaemeeoaaConf
import Derived.Test.YtgjebjoaemeeoaaInvT
import Derived.Deep.RegionWith
import Derived.Deep.DeepCutAuto
import Derived.Lib.SliceRun
import Derived.ArgAppend
namespace Go.Proofs.Ytgjebjoaemeeoaa.kit
open Go.ChangeShapes Go.WideShapes Go.ChangeAt Go.RowKit
set_option linter.unusedVariables false
set_option linter.unusedSimpArgs false

theorem src_own {b : Nat} {w : World} {v : Value} {l : List Int} (h : OwnI b w v l) : SrcI w.heap.size w v l := by
  rcases h.2 with ⟨rfl, h0⟩ | ⟨g, c, cur, rfl, hg, hh, hn, hm, hr⟩
  · exact .inl ⟨rfl, List.eq_nil_of_length_eq_zero h0⟩
  · refine .inr ⟨⟨g, 0, none⟩, c, rfl, (Array.getElem?_eq_some_iff.1 hh).1, fun j hj => ?_⟩
    have e : (⟨g, 0, none⟩ : Addr).add j = ⟨g, j, none⟩ := by unfold Addr.add; split <;> simp_all
    rw [e, h.row.cellAt j (by omega)]
    simp [List.getD, hj]
theorem src_shape {B : Nat} {w : World} {v : Value} {l : List Int} (h : SrcI B w v l) : ∃ a c, v = .slice a l.length c := by
  rcases h with ⟨rfl, rfl⟩ | ⟨x, c, rfl, _⟩
  · exact ⟨_, _, rfl⟩
  · exact ⟨_, _, rfl⟩
theorem src_later {B : Nat} {w w' : World} {v : Value} {l : List Int} (h : SrcI B w v l) (hB : B ≤ w.heap.size) (hb : Below w.heap.size w w') : SrcI w'.heap.size w' v l := by
  have h' := h.below hb hB
  rcases h' with h' | ⟨x, c, h1, h2, h3⟩
  · exact .inl h'
  · exact .inr ⟨x, c, h1, Nat.lt_of_lt_of_le h2 (Nat.le_trans hB hb.size), h3⟩
theorem row_new (w : World) (base : Nat) (hb : base ≤ w.heap.size) : OwnI base (w.alloc (.cells #[] 3)) (.slice (some ⟨w.heap.size, 0, none⟩) 0 0) [] := World.ownsRow_lit w #[] 0 hb (Nat.zero_le _) rfl
/-- append of a row to an empty one without room: nothing that was there turns -/
theorem wp_copyI {w : World} {o : Oper} {a : Act} {K : Act → World → Prop} {Q : Exit → Act → World → Prop} (s x : Operand)
    (ho : o.op = .call { callee := .builtin .append, args := #[s, x], argTypes := #[24, 24] })
    (N g : Nat) (hs : a.eval s = .slice (some ⟨g, 0, none⟩) 0 0) (hown : OwnI N w (.slice (some ⟨g, 0, none⟩) 0 0) []) (B : Nat) (sv : Value) (l : List Int) (hx : a.eval x = sv) (hsrc : SrcI B w sv l)
    (hlen : l.length ≤ 1000000000000) (hN : N ≤ w.heap.size)
    (h : ∀ v' w', OwnI N w' v' l → Below w.heap.size w w' → K (a.put o.dst v') w') : o.wp Try.prog a w K Q := by
  obtain ⟨i0, hi, hz0, hz1, hz2⟩ := info_parts infoI
  rcases hsrc with ⟨rfl, rfl⟩ | ⟨ad, c, rfl, _, hc⟩
  · have hrun := run_append_owned_none (P := Try.prog) (w := w) N 24 o.type 3 i0 1 Try.underlying24 hi _ 0 _ hown.row
    unfold Oper.wp execOp
    simp only [ho, resolve, invoke, builtin, Sem.run_bind, Sem.run_pure, Result.andThen_ok, List.map_toArray, List.map_cons, List.map_nil, hs, hx, hrun]
    exact h _ w hown (Below.refl _ _)
  · by_cases h0 : l = []
    · subst h0
      have hr : (Builtin.append_ #[24, 24] o.type #[.slice (some ⟨g, 0, none⟩) 0 0, .slice (some ad) ([] : List Int).length c]).run Try.prog w = .ok (.slice (some ⟨g, 0, none⟩) 0 0) w := by
        simp [Builtin.append_, run_underlying Try.underlying24, sizeOf, typeInfo, hi, Builtin.lenOf, Builtin.firstCells, loadCells, loadCellsFrom, storeCells]
      unfold Oper.wp execOp
      simp only [ho, resolve, invoke, builtin, Sem.run_bind, Sem.run_pure, Result.andThen_ok, List.map_toArray, List.map_cons, List.map_nil, hs, hx, hr]
      exact h _ w hown (Below.refl _ _)
    · have hpos : 0 < l.length := List.length_pos_iff.2 h0
      obtain ⟨v', w', hr, h1, h2⟩ := run_append_arg_grows (P := Try.prog) w 24 o.type 3 i0 (.int .i64 0) 1 8 Try.underlying24 hi hz0 hz1 hz2 rfl (by omega) ⟨g, 0, none⟩ 0 0 [] rfl (fun j u hu => by cases hu) ad l.length c (l.map (Value.int .i64)) (by simp)
        (fun j u hu => by
          have hj : j < l.length := by
            have := (List.getElem?_eq_some_iff.1 hu).1
            simpa using this
          rw [List.getElem?_map, List.getElem?_eq_getElem hj] at hu
          have e := hc j hj
          rw [e]
          simpa [List.getD, hj] using hu) (by omega) (by unfold maxLen; omega) (by omega)
      unfold Oper.wp execOp
      simp only [ho, resolve, invoke, builtin, Sem.run_bind, Sem.run_pure, Result.andThen_ok, List.map_toArray, List.map_cons, List.map_nil, hs, hx, hr]
      have h1' : w'.ownsRow w.heap.size 3 1 v' l.length (l.map (Value.int .i64)) := by simpa using h1
      refine h v' w' (OwnI.mono (OwnI.of h1' rfl) hN) ((Below.refl w.heap.size w).grown h2 (Nat.le_refl _) (fun k hk => by cases hk))
def isZ (N : Nat) : Value → World → Prop := fun v w => ∃ g, v = .slice (some ⟨g, 0, none⟩) 0 0 ∧ OwnI N w (.slice (some ⟨g, 0, none⟩) 0 0) []
theorem isZ_mono (N : Nat) : Mono (isZ N) := fun _ _ _ ⟨g, h, h1⟩ hb => ⟨g, h, h1.later hb⟩
structure isR (N : Nat) (L : List Int) (v : Value) (w : World) : Prop where
  h : OwnI N w v L
theorem isR_mono (N : Nat) (L : List Int) : Mono (isR N L) := fun _ _ _ h hb => ⟨OwnI.later h.h hb⟩
def isCf (N : Nat) (x y : Int) (L1 L2 : List Int) : Value → World → Prop := fun v w => ∃ u1 u2, v = .agg #[.int .i64 x, .int .i64 y, u1, u2] ∧ OwnI N w u1 L1 ∧ OwnI N w u2 L2
theorem isCf_mono (N : Nat) (x y : Int) (L1 L2 : List Int) : Mono (isCf N x y L1 L2) := fun _ _ _ ⟨u1, u2, h, h1, h2⟩ hb => ⟨u1, u2, h, h1.later hb, h2.later hb⟩
/-- a box of another type stays clear of a row -/
theorem rowI_put {W : World} {base b : Nat} {v : Value} {l : List Int} {t : TypeId} {cs : Array Value} (hr : OwnI base W v l) (hb : BoxC W b t cs) (hte : t ≠ 3) (j : Nat) (u : Value) : OwnI base (W.setCell ⟨b, j, none⟩ u) v l := by
  refine ownsRow_setCell_other hr ?_ _
  rcases hr.2 with ⟨rfl, _⟩ | ⟨q, cap, cur, rfl, _, hgb, _⟩
  · simp [Value.ownBlock]
  · intro e'
    obtain rfl : q = b := by simpa [Value.ownBlock] using e'
    have := hgb.symm.trans hb
    simp at this
    exact hte this.2.symm
theorem put4 {W : World} {base b : Nat} {v : Value} {l : List Int} {t : TypeId} {cs : Array Value} (hr : OwnI base W v l) (hb : BoxC W b t cs) (hte : t ≠ 3) (x y z u : Value) : OwnI base ((((W.setCell ⟨b, 0, none⟩ x).setCell ⟨b, 1, none⟩ y).setCell ⟨b, 2, none⟩ z).setCell ⟨b, 3, none⟩ u) v l :=
  rowI_put (rowI_put (rowI_put (rowI_put hr hb hte 0 _) (hb.put 0 _) hte 1 _) ((hb.put 0 _).put 1 _) hte 2 _) (((hb.put 0 _).put 1 _).put 2 _) hte 3 _
set_option maxRecDepth 100000 in
set_option maxHeartbeats 4000000 in
theorem l8CopyS (x y : Int) (v1 v2 : Value) (L1 L2 : List Int) (w : World) (hl1 : L1.length ≤ 4194304) (hl2 : L2.length ≤ 4194304) (o1 : SrcI w.heap.size w v1 L1) (o2 : SrcI w.heap.size w v2 L2) :
    Calls Try.prog 39 #[.agg #[.int .i64 x, .int .i64 y, v1, v2]] w fun e w' => ∃ u1 u2, e = .returned (.agg #[.int .i64 x, .int .i64 y, u1, u2]) ∧ OwnI w.heap.size w' u1 L1 ∧ OwnI w.heap.size w' u2 L2 ∧ Below w.heap.size w w' := by
  obtain ⟨y1, q1, rfl⟩ := src_shape o1
  obtain ⟨y2, q2, rfl⟩ := src_shape o2
  have HS1 := Lib.hid o1
  have HS2 := Lib.hid o2
  obtain ⟨wk, hwk⟩ : ∃ W, W = (w.alloc (.cells #[.int .i64 x, .int .i64 y, .slice y1 L1.length q1, .slice y2 L2.length q2] 26)).alloc (.cells #[.int .i64 0, .int .i64 0, .slice none 0 0, .slice none 0 0] 26) := ⟨_, rfl⟩
  have HA := Lib.hid (show Below w.heap.size w wk by rw [hwk]; exact ((Below.refl _ _).alloc (Nat.le_refl _) _).alloc (by simp) _)
  have HC := Lib.hid (show BoxC wk w.heap.size 26 #[.int .i64 x, .int .i64 y, .slice y1 L1.length q1, .slice y2 L2.length q2] by rw [hwk]; exact (BoxC.new _ _ _).later ((Below.refl _ _).alloc (Nat.le_refl _) _))
  have HR := Lib.hid (show BoxC wk (w.heap.size + 1) 26 #[.int .i64 0, .int .i64 0, .slice none 0 0, .slice none 0 0] by
    rw [hwk]
    have h := BoxC.new (w.alloc (.cells #[.int .i64 x, .int .i64 y, .slice y1 L1.length q1, .slice y2 L2.length q2] 26)) 26 #[.int .i64 0, .int .i64 0, .slice none 0 0, .slice none 0 0]
    rwa [World.size_alloc] at h)
  have HW0 := Lib.hid hwk
  clear o1 o2 hwk
  go_enter Try.func39, Try.ntmps39
  go_wp2_with fail
  rw [← HW0.out]
  clear HW0
  refine region_inv (m := 13) [3, 4, 5, 6, 7, 8, 9, 10, 11, 12, 13, 14, 15] [] (Fs [isV (.pointer (some ⟨w.heap.size, 0, none⟩)), isV (.int .i64 x), isV (.pointer (some ⟨w.heap.size, 1, none⟩)), isV (.int .i64 y), isZ w.heap.size, isV (.pointer (some ⟨w.heap.size, 2, none⟩)), isV (.slice y1 L1.length q1), isR w.heap.size L1, isZ w.heap.size, isV (.pointer (some ⟨w.heap.size, 3, none⟩)), isV (.slice y2 L2.length q2), isR w.heap.size L2, isCf w.heap.size x y L1 L2]) (by kernel_rfl) (by decide) rfl (by decide) (by kernel_rfl) (by kernel_rfl) (by kernel_rfl) (fun _ _ _ _ _ h => h) (Fs_mono ⟨isV_mono _, isV_mono _, isV_mono _, isV_mono _, isZ_mono _, isV_mono _, isV_mono _, isR_mono _ _, isZ_mono _, isV_mono _, isV_mono _, isR_mono _ _, isCf_mono _ _ _ _ _, trivial⟩) ?step ?float ?tail
  case float =>
    intro f hf
    cases hf
  case step =>
    intro i hi vs wq hBq hd
    by_cases h12 : i = 12
    · subst h12
      have e1' : vs 1 = .int .i64 x := hd 1 (List.contains_iff_mem.1 (by kernel_rfl))
      have e3' : vs 3 = .int .i64 y := hd 3 (List.contains_iff_mem.1 (by kernel_rfl))
      have r1 : isR w.heap.size L1 (vs 7) wq := hd 7 (List.contains_iff_mem.1 (by kernel_rfl))
      have r2 : isR w.heap.size L2 (vs 11) wq := hd 11 (List.contains_iff_mem.1 (by kernel_rfl))
      have h1 := r1.h
      have h2 := r2.h
      have hs1 := OwnI.shape h1
      cases hs1 with | intro ya hs1 =>
      cases hs1 with | intro qa ea =>
      have hs2 := OwnI.shape h2
      cases hs2 with | intro yb hs2 =>
      cases hs2 with | intro qb eb =>
      rw [ea] at h1
      rw [eb] at h2
      refine wpOp_step (o := _) rfl (fun K' hK => ?_)
      have HK := Lib.hid hK
      clear hK
      simp only [lay, Act.put, List.setIfInBounds_toArray, List.set_cons_zero, List.set_cons_succ, List.getD_cons_zero, List.getD_cons_succ, id_eq]
      rw [e1', e3', ea, eb]
      go_simp
      refine HK.out _ _ ⟨_, ?_, Below.refl _ _, ⟨_, _, rfl, h1, h2⟩⟩
      simp only [lay, Act.put, List.setIfInBounds_toArray, List.set_cons_zero, List.set_cons_succ, List.getD_cons_zero, List.getD_cons_succ, id_eq]
      rw [e1', e3', ea, eb]
    replace hi : i < 12 := by omega
    clear h12
    by_cases h11 : i = 11
    · subst h11
      have hz : isZ w.heap.size (vs 8) wq := hd 8 (List.contains_iff_mem.1 (by kernel_rfl))
      cases hz with | intro g hz =>
      have ez := hz.1
      have oz := hz.2
      have e10' : vs 10 = .slice y2 L2.length q2 := hd 10 (List.contains_iff_mem.1 (by kernel_rfl))
      refine wpOp_step (o := _) rfl (fun K' hK => ?_)
      have HK := Lib.hid hK
      clear hK
      simp only [lay, Act.put, List.setIfInBounds_toArray, List.set_cons_zero, List.set_cons_succ, List.getD_cons_zero, List.getD_cons_succ, id_eq]
      rw [ez, e10']
      refine wp_copyI (.tmp 11) (.tmp 13) rfl w.heap.size g rfl oz w.heap.size _ L2 rfl (HS2.out.below (HA.out.trans (hBq.mono HA.out.size)) (Nat.le_refl _)) (by omega) (Nat.le_trans HA.out.size hBq.size) (fun v' w' ho hb => ?_)
      refine HK.out _ _ ⟨_, ?_, hb, ⟨ho⟩⟩
      show Act.put _ (some 14) v' = _
      simp only [lay, Act.put, List.setIfInBounds_toArray, List.set_cons_zero, List.set_cons_succ, List.getD_cons_zero, List.getD_cons_succ, id_eq]
      rw [ez, e10']
    replace hi : i < 11 := by omega
    clear h11
    by_cases h10 : i = 10
    · subst h10
      have e9' : vs 9 = .pointer (some ⟨w.heap.size, 3, none⟩) := hd 9 (List.contains_iff_mem.1 (by kernel_rfl))
      have kc := (HC.out.later hBq).c 3 rfl
      refine wpOp_step (o := _) rfl (fun K' hK => ?_)
      have HK := Lib.hid hK
      clear hK
      simp only [lay, Act.put, List.setIfInBounds_toArray, List.set_cons_zero, List.set_cons_succ, List.getD_cons_zero, List.getD_cons_succ, id_eq]
      rw [e9']
      go_simp
      refine HK.out _ _ ⟨_, ?_, Below.refl _ _, rfl⟩
      simp only [lay, Act.put, List.setIfInBounds_toArray, List.set_cons_zero, List.set_cons_succ, List.getD_cons_zero, List.getD_cons_succ, id_eq]
      rw [e9']
    replace hi : i < 10 := by omega
    clear h10
    by_cases h9 : i = 9
    · subst h9
      refine wpOp_step (o := _) rfl (fun K' hK => ?_)
      have HK := Lib.hid hK
      clear hK
      simp only [lay, Act.put, List.setIfInBounds_toArray, List.set_cons_zero, List.set_cons_succ, List.getD_cons_zero, List.getD_cons_succ, id_eq]
      go_simp
      refine HK.out _ _ ⟨_, ?_, Below.refl _ _, rfl⟩
      simp only [lay, Act.put, List.setIfInBounds_toArray, List.set_cons_zero, List.set_cons_succ, List.getD_cons_zero, List.getD_cons_succ, id_eq]
    replace hi : i < 9 := by omega
    clear h9
    by_cases h8 : i = 8
    · subst h8
      refine wpOp_step (o := _) rfl (fun K' hK => ?_)
      have HK := Lib.hid hK
      clear hK
      simp only [lay, Act.put, List.setIfInBounds_toArray, List.set_cons_zero, List.set_cons_succ, List.getD_cons_zero, List.getD_cons_succ, id_eq]
      go_simp
      refine HK.out _ _ ⟨_, ?_, (Below.refl _ _).alloc (Nat.le_refl _) _, ⟨_, rfl, row_new _ _ (Nat.le_trans HA.out.size hBq.size)⟩⟩
      simp only [lay, Act.put, List.setIfInBounds_toArray, List.set_cons_zero, List.set_cons_succ, List.getD_cons_zero, List.getD_cons_succ, id_eq]
    replace hi : i < 8 := by omega
    clear h8
    by_cases h7 : i = 7
    · subst h7
      have hz : isZ w.heap.size (vs 4) wq := hd 4 (List.contains_iff_mem.1 (by kernel_rfl))
      cases hz with | intro g hz =>
      have ez := hz.1
      have oz := hz.2
      have e6' : vs 6 = .slice y1 L1.length q1 := hd 6 (List.contains_iff_mem.1 (by kernel_rfl))
      refine wpOp_step (o := _) rfl (fun K' hK => ?_)
      have HK := Lib.hid hK
      clear hK
      simp only [lay, Act.put, List.setIfInBounds_toArray, List.set_cons_zero, List.set_cons_succ, List.getD_cons_zero, List.getD_cons_succ, id_eq]
      rw [ez, e6']
      refine wp_copyI (.tmp 7) (.tmp 9) rfl w.heap.size g rfl oz w.heap.size _ L1 rfl (HS1.out.below (HA.out.trans (hBq.mono HA.out.size)) (Nat.le_refl _)) (by omega) (Nat.le_trans HA.out.size hBq.size) (fun v' w' ho hb => ?_)
      refine HK.out _ _ ⟨_, ?_, hb, ⟨ho⟩⟩
      show Act.put _ (some 10) v' = _
      simp only [lay, Act.put, List.setIfInBounds_toArray, List.set_cons_zero, List.set_cons_succ, List.getD_cons_zero, List.getD_cons_succ, id_eq]
      rw [ez, e6']
    replace hi : i < 7 := by omega
    clear h7
    by_cases h6 : i = 6
    · subst h6
      have e5' : vs 5 = .pointer (some ⟨w.heap.size, 2, none⟩) := hd 5 (List.contains_iff_mem.1 (by kernel_rfl))
      have kc := (HC.out.later hBq).c 2 rfl
      refine wpOp_step (o := _) rfl (fun K' hK => ?_)
      have HK := Lib.hid hK
      clear hK
      simp only [lay, Act.put, List.setIfInBounds_toArray, List.set_cons_zero, List.set_cons_succ, List.getD_cons_zero, List.getD_cons_succ, id_eq]
      rw [e5']
      go_simp
      refine HK.out _ _ ⟨_, ?_, Below.refl _ _, rfl⟩
      simp only [lay, Act.put, List.setIfInBounds_toArray, List.set_cons_zero, List.set_cons_succ, List.getD_cons_zero, List.getD_cons_succ, id_eq]
      rw [e5']
    replace hi : i < 6 := by omega
    clear h6
    by_cases h5 : i = 5
    · subst h5
      refine wpOp_step (o := _) rfl (fun K' hK => ?_)
      have HK := Lib.hid hK
      clear hK
      simp only [lay, Act.put, List.setIfInBounds_toArray, List.set_cons_zero, List.set_cons_succ, List.getD_cons_zero, List.getD_cons_succ, id_eq]
      go_simp
      refine HK.out _ _ ⟨_, ?_, Below.refl _ _, rfl⟩
      simp only [lay, Act.put, List.setIfInBounds_toArray, List.set_cons_zero, List.set_cons_succ, List.getD_cons_zero, List.getD_cons_succ, id_eq]
    replace hi : i < 5 := by omega
    clear h5
    by_cases h4 : i = 4
    · subst h4
      refine wpOp_step (o := _) rfl (fun K' hK => ?_)
      have HK := Lib.hid hK
      clear hK
      simp only [lay, Act.put, List.setIfInBounds_toArray, List.set_cons_zero, List.set_cons_succ, List.getD_cons_zero, List.getD_cons_succ, id_eq]
      go_simp
      refine HK.out _ _ ⟨_, ?_, (Below.refl _ _).alloc (Nat.le_refl _) _, ⟨_, rfl, row_new _ _ (Nat.le_trans HA.out.size hBq.size)⟩⟩
      simp only [lay, Act.put, List.setIfInBounds_toArray, List.set_cons_zero, List.set_cons_succ, List.getD_cons_zero, List.getD_cons_succ, id_eq]
    replace hi : i < 4 := by omega
    clear h4
    by_cases h3 : i = 3
    · subst h3
      have e2' : vs 2 = .pointer (some ⟨w.heap.size, 1, none⟩) := hd 2 (List.contains_iff_mem.1 (by kernel_rfl))
      have kc := (HC.out.later hBq).c 1 rfl
      refine wpOp_step (o := _) rfl (fun K' hK => ?_)
      have HK := Lib.hid hK
      clear hK
      simp only [lay, Act.put, List.setIfInBounds_toArray, List.set_cons_zero, List.set_cons_succ, List.getD_cons_zero, List.getD_cons_succ, id_eq]
      rw [e2']
      go_simp
      refine HK.out _ _ ⟨_, ?_, Below.refl _ _, rfl⟩
      simp only [lay, Act.put, List.setIfInBounds_toArray, List.set_cons_zero, List.set_cons_succ, List.getD_cons_zero, List.getD_cons_succ, id_eq]
      rw [e2']
    replace hi : i < 3 := by omega
    clear h3
    by_cases h2 : i = 2
    · subst h2
      refine wpOp_step (o := _) rfl (fun K' hK => ?_)
      have HK := Lib.hid hK
      clear hK
      simp only [lay, Act.put, List.setIfInBounds_toArray, List.set_cons_zero, List.set_cons_succ, List.getD_cons_zero, List.getD_cons_succ, id_eq]
      go_simp
      refine HK.out _ _ ⟨_, ?_, Below.refl _ _, rfl⟩
      simp only [lay, Act.put, List.setIfInBounds_toArray, List.set_cons_zero, List.set_cons_succ, List.getD_cons_zero, List.getD_cons_succ, id_eq]
    replace hi : i < 2 := by omega
    clear h2
    by_cases h1 : i = 1
    · subst h1
      have e0' : vs 0 = .pointer (some ⟨w.heap.size, 0, none⟩) := hd 0 (List.contains_iff_mem.1 (by kernel_rfl))
      have kc := (HC.out.later hBq).c 0 rfl
      refine wpOp_step (o := _) rfl (fun K' hK => ?_)
      have HK := Lib.hid hK
      clear hK
      simp only [lay, Act.put, List.setIfInBounds_toArray, List.set_cons_zero, List.set_cons_succ, List.getD_cons_zero, List.getD_cons_succ, id_eq]
      rw [e0']
      go_simp
      refine HK.out _ _ ⟨_, ?_, Below.refl _ _, rfl⟩
      simp only [lay, Act.put, List.setIfInBounds_toArray, List.set_cons_zero, List.set_cons_succ, List.getD_cons_zero, List.getD_cons_succ, id_eq]
      rw [e0']
    replace hi : i < 1 := by omega
    clear h1
    by_cases h0 : i = 0
    · subst h0
      refine wpOp_step (o := _) rfl (fun K' hK => ?_)
      have HK := Lib.hid hK
      clear hK
      simp only [lay, Act.put, List.setIfInBounds_toArray, List.set_cons_zero, List.set_cons_succ, List.getD_cons_zero, List.getD_cons_succ, id_eq]
      go_simp
      refine HK.out _ _ ⟨_, ?_, Below.refl _ _, rfl⟩
      simp only [lay, Act.put, List.setIfInBounds_toArray, List.set_cons_zero, List.set_cons_succ, List.getD_cons_zero, List.getD_cons_succ, id_eq]
    replace hi : i < 0 := by omega
    clear h0
    exact absurd hi (Nat.not_lt_zero _)
  case tail =>
    intro vs wq hBq hf
    simp only [lay, Act.put, List.setIfInBounds_toArray, List.set_cons_zero, List.set_cons_succ, List.getD_cons_zero, List.getD_cons_succ, id_eq]
    obtain ⟨u1, u2, eb, h1, h2⟩ : isCf w.heap.size x y L1 L2 (vs 12) wq := hf 12 (by decide)
    obtain ⟨ya, qa, rfl⟩ := h1.shape
    obtain ⟨yb, qb, rfl⟩ := h2.shape
    rw [eb]
    refine any_all (rs := [13]) (by kernel_rfl) (by simp) ?_
    intro i hi
    simp only [List.mem_cons, List.not_mem_nil, or_false] at hi
    subst hi
    refine wpOp_step (o := _) rfl (fun K' hK => ?_)
    have HK := Lib.hid hK
    clear hK
    have HR' := HR.out.later hBq
    have k0 := HR'.c 0 rfl
    have k1 := HR'.c 1 rfl
    have k2 := HR'.c 2 rfl
    have k3 := HR'.c 3 rfl
    have kf0 := HR'.f 0
    have kf1 := HR'.f 1
    have kf2 := HR'.f 2
    have kf3 := HR'.f 3
    go_simp
    refine HK.out _ _ ?_
    clear HK K'
    try simp only [Act.put, List.setIfInBounds_toArray, List.set_cons_zero, List.set_cons_succ]
    refine any_done (by kernel_rfl) ?_ _
    clear hf
    have HW := Lib.hid (HA.out.trans (hBq.mono HA.out.size))
    clear hBq
    go_wp2_with fail
    refine bodyPost_ret (v := .agg #[.int .i64 x, .int .i64 y, .slice ya L1.length qa, .slice yb L2.length qb]) (by simp [results, Try.results39, go_sem, k0, k1, k2, k3]) rfl ⟨_, _, rfl, ?_, ?_, ?_⟩
    · exact put4 h1 HR' (by decide) _ _ _ _
    · exact put4 h2 HR' (by decide) _ _ _ _
    · exact (((HW.out.setCell (p := ⟨w.heap.size + 1, 0, none⟩) (Nat.le_succ _) _).setCell (p := ⟨w.heap.size + 1, 1, none⟩) (Nat.le_succ _) _).setCell (p := ⟨w.heap.size + 1, 2, none⟩) (Nat.le_succ _) _).setCell (p := ⟨w.heap.size + 1, 3, none⟩) (Nat.le_succ _) _
theorem l8Copy (x y : Int) (b1 b2 : Nat) (v1 v2 : Value) (L1 L2 : List Int) (w : World) (hl1 : L1.length ≤ 4194304) (hl2 : L2.length ≤ 4194304) (o1 : OwnI b1 w v1 L1) (o2 : OwnI b2 w v2 L2) :
    Calls Try.prog 39 #[.agg #[.int .i64 x, .int .i64 y, v1, v2]] w fun e w' => ∃ u1 u2, e = .returned (.agg #[.int .i64 x, .int .i64 y, u1, u2]) ∧ OwnI w.heap.size w' u1 L1 ∧ OwnI w.heap.size w' u2 L2 ∧ Below w.heap.size w w' := l8CopyS x y v1 v2 L1 L2 w hl1 hl2 (src_own o1) (src_own o2)
end Go.Proofs.Ytgjebjoaemeeoaa.kit
