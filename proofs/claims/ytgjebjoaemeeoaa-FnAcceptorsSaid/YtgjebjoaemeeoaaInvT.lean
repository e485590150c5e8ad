/-
  A region that draws its order, with a last operation that leans on all the earlier ones only by way of others.
-/
import Derived.Test.YtgjebjoaemeeoaaInvV
namespace Go.Proofs.Ytgjebjoaemeeoaa.kit
open Go.ChangeShapes Go.WideShapes Go.ChangeAt Go.RowKit
set_option linter.unusedVariables false
set_option linter.unusedSimpArgs false
section
variable {P : Program} {ops : Array Oper} {Q : Exit → Act → World → Prop}
def reach (ops : Array Oper) : Nat → List Nat → List Nat
  | 0, l => l
  | n + 1, l => reach ops n (l ++ l.flatMap (deps ops))
theorem reach_done {ls : Array Bool} (hc : ∀ i, ls.getD i false = true → ∀ j ∈ deps ops i, ls.getD j false = true) : ∀ (n : Nat) (l : List Nat), (∀ j ∈ l, ls.getD j false = true) → ∀ j ∈ reach ops n l, ls.getD j false = true
  | 0, _, h => h
  | n + 1, l, h => reach_done hc n _ (fun j hj => by
    rw [List.mem_append, List.mem_flatMap] at hj
    rcases hj with hj | ⟨i, hi, hj⟩
    · exact h j hj
    · exact hc i (h i hi) j hj)
def okReach (ops : Array Oper) (m : Nat) : Bool := (List.range ops.size).all fun j => decide (j < m) || (List.range m).all fun i => (reach ops m (deps ops j)).contains i
theorem set_keep {ls : Array Bool} {i j : Nat} (hi : ls.getD i true = false) (h : ls.getD j false = true) : (ls.setIfInBounds i true).getD j false = true := by
  by_cases e : i = j
  · subst e; exact getD_set_same hi
  · rw [getD_set_ne false e]; exact h
theorem region_reach {id : Nat} {a : Act} {wk : World} {m : Nat} (ds : List Nat) (F : Nat → Value → World → Prop) (hm : P.follows .mixedOrders = true) (hmn : m ≤ ops.size) (hds : ds.length = m) (hnd : ds.Nodup)
    (hdep : okDeps ops m = true) (htw : okReach ops m = true) (hQ : ∀ c d v a w, Q (.panic c) (Act.put a (some d) v) w → Q (.panic c) a w) (hmono : ∀ i v w w', F i v w → Below w.heap.size w w' → F i v w')
    (hstep : ∀ i, i < m → ∀ vs w, Below wk.heap.size wk w → (∀ j ∈ deps ops i, F j (vs j) w) →
      wpOp P ops Q i (fun a' w' => ∃ v, a' = (lay ds vs 0 a).put (some (ds.getD i 0)) v ∧ Below w.heap.size w w' ∧ F i v w') (lay ds vs 0 a) w)
    (htail : ∀ vs w, Below wk.heap.size wk w → (∀ j, j < m → F j (vs j) w) → wpAny P .any ops Q (ops.size - m) (doneTo ops.size m) (lay ds vs 0 a) w) :
    (Code.region id ops true).wp P Q a wk := by
  have hdf : ∀ k, k < m → ds[k]? = some (ds.getD k 0) := fun k hk => by
    rw [List.getElem?_eq_getElem (by omega)]; simp [List.getD, List.getElem?_eq_getElem (show k < ds.length by omega)]
  have key : ∀ (u : Nat) (ls : Array Bool) (vs : Nat → Value) (w : World), undone m ls = u → ls.size = ops.size → (∀ j, m ≤ j → j < ops.size → ls.getD j true = false) → Below wk.heap.size wk w →
      (∀ i, ls.getD i false = true → ∀ j ∈ deps ops i, ls.getD j false = true) →
      (∀ j, j < m → ls.getD j false = true → F j (vs j) w) → wpAny P .any ops Q (u + (ops.size - m)) ls (lay ds vs 0 a) w := by
    intro u
    induction u with
    | zero =>
      intro ls vs w hu hsz hrest hB hcl hF
      have hd := undone_zero m ls hu
      have e : ls = doneTo ops.size m := by
        apply Array.ext (by simp [doneTo, hsz])
        intro i h1 h2
        by_cases h : i < m
        · have := hd i h; simp [h1] at this; simp [doneTo, h, this]
        · have := hrest i (by omega) (by omega); simp [h1] at this; simp [doneTo, h, this]
      rw [Nat.zero_add, e]
      exact htail vs w hB (fun j hj => hF j hj (hd j hj))
    | succ u ih =>
      intro ls vs w hu hsz hrest hB hcl hF
      obtain ⟨i0, hi0, hl0, hlow⟩ := undone_pos m ls (by omega)
      rw [show u + 1 + (ops.size - m) = (u + (ops.size - m)) + 1 by omega]
      refine ⟨fun h => ?_, fun i hi => ?_⟩
      · exfalso
        have hlt : i0 < ops.size := by omega
        have hin : i0 ∈ Region.ready .any ops ls := by
          refine mem_ready.2 ⟨?_, ops[i0], by simp [hlt], fun e he hb => ?_⟩
          · rcases Nat.lt_or_ge i0 ls.size with h' | h'
            · simp [h'] at hl0 ⊢; exact hl0
            · omega
          · apply hlow
            have h1 := List.all_eq_true.1 hdep i0 (List.mem_range.2 hi0)
            have h2 := List.all_eq_true.1 h1 e.on (by
              unfold deps
              rw [show ops[i0]? = some ops[i0] by simp [hlt]]
              exact List.mem_map.2 ⟨e, List.mem_filter.2 ⟨by simpa using he, hb⟩, rfl⟩)
            exact of_decide_eq_true h2
        rw [h] at hin
        cases hin
      · obtain ⟨hjun, o, ho, hall⟩ := mem_ready.1 hi
        have hilt : i < ops.size := (Array.getElem?_eq_some_iff.1 ho).1
        have hcl' : ∀ i', (ls.setIfInBounds i true).getD i' false = true → ∀ j ∈ deps ops i', (ls.setIfInBounds i true).getD j false = true := fun i' h' j hj => by
          by_cases e : i = i'
          · subst e; exact set_keep hjun (dep_done ho hall hj)
          · rw [getD_set_ne false e] at h'; exact set_keep hjun (hcl i' h' j hj)
        by_cases him : i < m
        · refine wpOp_mono ?_ (hstep i him vs w hB (fun j hj => hF j ?_ (dep_done ho hall hj)))
          · rintro a' w' ⟨v, rfl, hb, hFi⟩
            have hdi : ds[i]? = some (ds.getD i 0) := by
              rw [List.getElem?_eq_getElem (by omega)]; simp [List.getD, List.getElem?_eq_getElem (show i < ds.length by omega)]
            rw [lay_put ds vs 0 a i _ v hdi hnd, Nat.zero_add]
            refine ih _ _ _ (by have := undone_set m ls i him hjun; omega) (by simp [hsz]) (fun j h1 h2 => ?_) (hB.trans (hb.mono hB.size)) hcl' (fun j h1 h2 => ?_)
            · rw [getD_set_ne true (show i ≠ j by omega)]; exact hrest j h1 h2
            · by_cases e : j = i
              · subst e; unfold upd; rw [if_pos rfl]; exact hFi
              · rw [getD_set_ne false (Ne.symm e)] at h2
                unfold upd; rw [if_neg e]
                exact hmono j _ _ _ (hF j h1 h2) hb
          · have h1 := List.all_eq_true.1 hdep i (List.mem_range.2 him)
            have := of_decide_eq_true (List.all_eq_true.1 h1 j hj)
            omega
        · exfalso
          have h1 := List.all_eq_true.1 htw i (List.mem_range.2 hilt)
          simp only [him, decide_false, Bool.false_or] at h1
          have h2 := List.all_eq_true.1 h1 i0 (List.mem_range.2 hi0)
          have := reach_done hcl m _ (fun j hj => dep_done ho hall hj) i0 (List.contains_iff_mem.1 h2)
          rw [hl0] at this
          cases this
  refine wp_region_any hm ?_
  have hl : lay ds (fun i => a.tmps.getD (ds.getD i 0) undef) 0 a = a := lay_self ds _ 0 a (fun k d hk => by simp [List.getD, hk])
  have hfalse : ∀ j, (Array.replicate ops.size false).getD j false = false := fun j => by
    rcases Nat.lt_or_ge j ops.size with h | h
    · simp [h]
    · simp [h]
  have := key m (Array.replicate ops.size false) (fun i => a.tmps.getD (ds.getD i 0) undef) wk.drew (undone_all _ _) (by simp) (fun j _ hj => by simp [hj]) (Below.refl _ _).drew (fun i h => by rw [hfalse i] at h; cases h) (fun j hj h => by rw [hfalse j] at h; cases h)
  rw [hl, show m + (ops.size - m) = ops.size by omega] at this
  exact this
end
end Go.Proofs.Ytgjebjoaemeeoaa.kit
