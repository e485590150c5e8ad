/-
  For every code: what impl says of the drawn machine and operation, of the same operation again, of the client's session and of the object is what the law asks: the law returns true and changes nothing that was there. No condition. (The draws of chapter 4, the walk, the claim, in one text.)
-/
import Derived.Test.YtibpajlfcknegaaDraw2
import Derived.Test.YtibpajlfcknegaaBoxC
import Derived.Test.YtibpajlfcknegaaInvK
import Derived.Test.YtibpajlfcknegaaAppLen
import Derived.Test.YtibpajlfcknegaaS2Draw
import Derived.Test.YtibpajlfcknegaaS4Equal
import Derived.Test.YtibpajlfcknegaaL4Draw
import Derived.Test.YtibpajlfcknegaaS4Perform
import Derived.Deep.DeepCutAuto
import Derived.Test.YtibpajlfcknegaaS4Tab
import Derived.Test.YtibpajlfcknegaaKit
import Derived.Deep.QuietTactic
import Derived.BigQuiet
import Derived.Shelf.RegionOpenPlain
import Derived.Test.YtibpajlfcknegaaC1Fixed
import Derived.Test.YtibpajlfcknegaaS4Read
import Derived.Test.YtibpajlfcknegaaS4Sess
import Derived.Deep.RegionWith
namespace Go.Proofs.Ytibpajlfcknegaa.kit
open Go.ChangeShapes Go.WideShapes Go.ChangeAt Go.RowKit
set_option linter.unusedVariables false

theorem BoxC.drewn {g : Nat} {w w' : World} {b : Nat} {t : TypeId} {cs : Array Value} (h : BoxC w b t cs) (hd : Drew g w w') (hg : b ≠ g) : BoxC w' b t cs := (hd.1.block b h.lt (fun e => hg (Option.some.inj e))).trans h
theorem Drew.setC {g b : Nat} {a w : World} (h : Drew g a w) (hb : a.heap.size ≤ b) (hg : g < a.heap.size) (j : Nat) (u : Value) : Drew g a (w.setCell ⟨b, j, none⟩ u) :=
  h.below ((Below.refl _ _).setCell (p := ⟨b, j, none⟩) hb u |>.mono (by exact Nat.le_refl _)) hg
end Go.Proofs.Ytibpajlfcknegaa.kit
namespace Go.Proofs.Ytibpajlfcknegaa.kit
open Go.ChangeShapes Go.WideShapes Go.ChangeAt Go.RowKit
set_option linter.unusedVariables false
set_option linter.unusedSimpArgs false

/-- a row of another type is another block -/
theorem row_other {W : World} {g : Nat} {t e : TypeId} {cs : Array Value} {r : Nat × Nat} (h : W.heap[g]? = some (.cells cs t r)) (hte : t ≠ e) {base size k : Nat} {v : Value} {xs : List Value} (hr : W.ownsRow base e size v k xs) : v.ownBlock ≠ some g := by
  rcases hr.2 with ⟨rfl, _⟩ | ⟨q, cap, cur, rfl, _, hgb, _⟩
  · simp [Value.ownBlock]
  · intro e'
    obtain rfl : q = g := by simpa [Value.ownBlock] using e'
    have := h.symm.trans hgb
    simp at this
    exact hte this.2.1
/-- a box stays while a row grows -/
theorem BoxC.past {W W' : World} {b : Nat} {t e : TypeId} {cs : Array Value} (h : BoxC W b t cs) (hte : t ≠ e) {base size k : Nat} {v : Value} {xs : List Value} (hr : W.ownsRow base e size v k xs) (hg : W.grownBy W' v.ownBlock) : BoxC W' b t cs :=
  (hg.block b h.lt (fun e' => row_other (r := (0, 0)) h hte hr e'.symm)).trans h
theorem row_put {W : World} {base : Nat} {e : TypeId} {size k b : Nat} {v : Value} {xs : List Value} {t : TypeId} {cs : Array Value} (hr : W.ownsRow base e size v k xs) (hb : BoxC W b t cs) (hte : t ≠ e) (j : Nat) (u : Value) : (W.setCell ⟨b, j, none⟩ u).ownsRow base e size v k xs :=
  ownsRow_setCell_other hr (row_other (r := (0, 0)) hb hte hr) _
theorem rows_past {W W' : World} {base base' : Nat} {e e' : TypeId} {size size' k k' : Nat} {v u : Value} {xs ys : List Value} (h : W.ownsRow base e size u k xs) (hr : W.ownsRow base' e' size' v k' ys) (hte : e ≠ e') (hg : W.grownBy W' v.ownBlock) : W'.ownsRow base e size u k xs := by
  refine h.kept hg ?_
  rcases h.2 with ⟨rfl, _⟩ | ⟨g, cap, cur, rfl, _, hgb, _⟩
  · exact .inl rfl
  · exact .inr fun e2 => row_other hgb hte hr e2.symm
end Go.Proofs.Ytibpajlfcknegaa.kit
namespace Go.Proofs.Ytibpajlfcknegaa.kit
open Go.ChangeShapes Go.WideShapes Go.ChangeAt Go.RowKit
set_option linter.unusedVariables false
set_option linter.unusedSimpArgs false
section
variable {P : Program} {ops : Array Oper} {Q : Exit → Act → World → Prop}
def reach (ops : Array Oper) : Nat → List Nat → List Nat
  | 0, l => l
  | n + 1, l => reach ops n (l ++ l.flatMap (deps ops))
theorem reach_done {ls : Array Bool} (hc : ∀ i, ls.getD i false = true → ∀ j ∈ deps ops i, ls.getD j false = true) : ∀ (n : Nat) (l : List Nat), (∀ j ∈ l, ls.getD j false = true) → ∀ j ∈ reach ops n l, ls.getD j false = true
  | 0, _, h => h
  | n + 1, l, h => reach_done hc n _ (fun j hj => by
    rw [List.mem_append, List.mem_flatMap] at hj
    rcases hj with hj | ⟨i, hi, hj⟩
    · exact h j hj
    · exact hc i (h i hi) j hj)
def okReach (ops : Array Oper) (m : Nat) : Bool := (List.range ops.size).all fun j => decide (j < m) || (List.range m).all fun i => (reach ops m (deps ops j)).contains i
theorem set_keep {ls : Array Bool} {i j : Nat} (hi : ls.getD i true = false) (h : ls.getD j false = true) : (ls.setIfInBounds i true).getD j false = true := by
  by_cases e : i = j
  · subst e; exact getD_set_same hi
  · rw [getD_set_ne false e]; exact h
theorem region_reach {id : Nat} {a : Act} {wk : World} {m : Nat} (ds : List Nat) (F : Nat → Value → World → Prop) (hm : P.follows .mixedOrders = true) (hmn : m ≤ ops.size) (hds : ds.length = m) (hnd : ds.Nodup)
    (hdep : okDeps ops m = true) (htw : okReach ops m = true) (hQ : ∀ c d v a w, Q (.panic c) (Act.put a (some d) v) w → Q (.panic c) a w) (hmono : ∀ i v w w', F i v w → Below w.heap.size w w' → F i v w')
    (hstep : ∀ i, i < m → ∀ vs w, Below wk.heap.size wk w → (∀ j ∈ deps ops i, F j (vs j) w) →
      wpOp P ops Q i (fun a' w' => ∃ v, a' = (lay ds vs 0 a).put (some (ds.getD i 0)) v ∧ Below w.heap.size w w' ∧ F i v w') (lay ds vs 0 a) w)
    (htail : ∀ vs w, Below wk.heap.size wk w → (∀ j, j < m → F j (vs j) w) → wpAny P .any ops Q (ops.size - m) (doneTo ops.size m) (lay ds vs 0 a) w) :
    (Code.region id ops true).wp P Q a wk := by
  have hdf : ∀ k, k < m → ds[k]? = some (ds.getD k 0) := fun k hk => by
    rw [List.getElem?_eq_getElem (by omega)]; simp [List.getD, List.getElem?_eq_getElem (show k < ds.length by omega)]
  have key : ∀ (u : Nat) (ls : Array Bool) (vs : Nat → Value) (w : World), undone m ls = u → ls.size = ops.size → (∀ j, m ≤ j → j < ops.size → ls.getD j true = false) → Below wk.heap.size wk w →
      (∀ i, ls.getD i false = true → ∀ j ∈ deps ops i, ls.getD j false = true) →
      (∀ j, j < m → ls.getD j false = true → F j (vs j) w) → wpAny P .any ops Q (u + (ops.size - m)) ls (lay ds vs 0 a) w := by
    intro u
    induction u with
    | zero =>
      intro ls vs w hu hsz hrest hB hcl hF
      have hd := undone_zero m ls hu
      have e : ls = doneTo ops.size m := by
        apply Array.ext (by simp [doneTo, hsz])
        intro i h1 h2
        by_cases h : i < m
        · have := hd i h; simp [h1] at this; simp [doneTo, h, this]
        · have := hrest i (by omega) (by omega); simp [h1] at this; simp [doneTo, h, this]
      rw [Nat.zero_add, e]
      exact htail vs w hB (fun j hj => hF j hj (hd j hj))
    | succ u ih =>
      intro ls vs w hu hsz hrest hB hcl hF
      obtain ⟨i0, hi0, hl0, hlow⟩ := undone_pos m ls (by omega)
      rw [show u + 1 + (ops.size - m) = (u + (ops.size - m)) + 1 by omega]
      refine ⟨fun h => ?_, fun i hi => ?_⟩
      · exfalso
        have hlt : i0 < ops.size := by omega
        have hin : i0 ∈ Region.ready .any ops ls := by
          refine mem_ready.2 ⟨?_, ops[i0], by simp [hlt], fun e he hb => ?_⟩
          · rcases Nat.lt_or_ge i0 ls.size with h' | h'
            · simp [h'] at hl0 ⊢; exact hl0
            · omega
          · apply hlow
            have h1 := List.all_eq_true.1 hdep i0 (List.mem_range.2 hi0)
            have h2 := List.all_eq_true.1 h1 e.on (by
              unfold deps
              rw [show ops[i0]? = some ops[i0] by simp [hlt]]
              exact List.mem_map.2 ⟨e, List.mem_filter.2 ⟨by simpa using he, hb⟩, rfl⟩)
            exact of_decide_eq_true h2
        rw [h] at hin
        cases hin
      · obtain ⟨hjun, o, ho, hall⟩ := mem_ready.1 hi
        have hilt : i < ops.size := (Array.getElem?_eq_some_iff.1 ho).1
        have hcl' : ∀ i', (ls.setIfInBounds i true).getD i' false = true → ∀ j ∈ deps ops i', (ls.setIfInBounds i true).getD j false = true := fun i' h' j hj => by
          by_cases e : i = i'
          · subst e; exact set_keep hjun (dep_done ho hall hj)
          · rw [getD_set_ne false e] at h'; exact set_keep hjun (hcl i' h' j hj)
        by_cases him : i < m
        · refine wpOp_mono ?_ (hstep i him vs w hB (fun j hj => hF j ?_ (dep_done ho hall hj)))
          · rintro a' w' ⟨v, rfl, hb, hFi⟩
            have hdi : ds[i]? = some (ds.getD i 0) := by
              rw [List.getElem?_eq_getElem (by omega)]; simp [List.getD, List.getElem?_eq_getElem (show i < ds.length by omega)]
            rw [lay_put ds vs 0 a i _ v hdi hnd, Nat.zero_add]
            refine ih _ _ _ (by have := undone_set m ls i him hjun; omega) (by simp [hsz]) (fun j h1 h2 => ?_) (hB.trans (hb.mono hB.size)) hcl' (fun j h1 h2 => ?_)
            · rw [getD_set_ne true (show i ≠ j by omega)]; exact hrest j h1 h2
            · by_cases e : j = i
              · subst e; unfold upd; rw [if_pos rfl]; exact hFi
              · rw [getD_set_ne false (Ne.symm e)] at h2
                unfold upd; rw [if_neg e]
                exact hmono j _ _ _ (hF j h1 h2) hb
          · have h1 := List.all_eq_true.1 hdep i (List.mem_range.2 him)
            have := of_decide_eq_true (List.all_eq_true.1 h1 j hj)
            omega
        · exfalso
          have h1 := List.all_eq_true.1 htw i (List.mem_range.2 hilt)
          simp only [him, decide_false, Bool.false_or] at h1
          have h2 := List.all_eq_true.1 h1 i0 (List.mem_range.2 hi0)
          have := reach_done hcl m _ (fun j hj => dep_done ho hall hj) i0 (List.contains_iff_mem.1 h2)
          rw [hl0] at this
          cases this
  refine wp_region_any hm ?_
  have hl : lay ds (fun i => a.tmps.getD (ds.getD i 0) undef) 0 a = a := lay_self ds _ 0 a (fun k d hk => by simp [List.getD, hk])
  have hfalse : ∀ j, (Array.replicate ops.size false).getD j false = false := fun j => by
    rcases Nat.lt_or_ge j ops.size with h | h
    · simp [h]
    · simp [h]
  have := key m (Array.replicate ops.size false) (fun i => a.tmps.getD (ds.getD i 0) undef) wk.drew (undone_all _ _) (by simp) (fun j _ hj => by simp [hj]) (Below.refl _ _).drew (fun i h => by rw [hfalse i] at h; cases h) (fun j hj h => by rw [hfalse j] at h; cases h)
  rw [hl, show m + (ops.size - m) = ops.size by omega] at this
  exact this
end
end Go.Proofs.Ytibpajlfcknegaa.kit
namespace Go.Proofs.Ytibpajlfcknegaa.kit
open Go.ChangeShapes Go.WideShapes Go.ChangeAt Go.RowKit
set_option linter.unusedVariables false
set_option linter.unusedSimpArgs false
section
variable {P : Program} {ops : Array Oper} {Q : Exit → Act → World → Prop}
theorem region_reachR {id : Nat} {a : Act} {wk : World} {m : Nat} (R : World → World → Prop) (hrefl : R wk wk.drew) (htr : ∀ a b c, R a b → R b c → R a c) (ds : List Nat) (F : Nat → Value → World → Prop) (hm : P.follows .mixedOrders = true) (hmn : m ≤ ops.size) (hds : ds.length = m) (hnd : ds.Nodup)
    (hdep : okDeps ops m = true) (htw : okReach ops m = true) (hQ : ∀ c d v a w, Q (.panic c) (Act.put a (some d) v) w → Q (.panic c) a w) (hmono : ∀ i v w w', F i v w → R w w' → F i v w')
    (hstep : ∀ i, i < m → ∀ vs w, R wk w → (∀ j ∈ deps ops i, F j (vs j) w) →
      wpOp P ops Q i (fun a' w' => ∃ v, a' = (lay ds vs 0 a).put (some (ds.getD i 0)) v ∧ R w w' ∧ F i v w') (lay ds vs 0 a) w)
    (htail : ∀ vs w, R wk w → (∀ j, j < m → F j (vs j) w) → wpAny P .any ops Q (ops.size - m) (doneTo ops.size m) (lay ds vs 0 a) w) :
    (Code.region id ops true).wp P Q a wk := by
  have hdf : ∀ k, k < m → ds[k]? = some (ds.getD k 0) := fun k hk => by
    rw [List.getElem?_eq_getElem (by omega)]; simp [List.getD, List.getElem?_eq_getElem (show k < ds.length by omega)]
  have key : ∀ (u : Nat) (ls : Array Bool) (vs : Nat → Value) (w : World), undone m ls = u → ls.size = ops.size → (∀ j, m ≤ j → j < ops.size → ls.getD j true = false) → R wk w →
      (∀ i, ls.getD i false = true → ∀ j ∈ deps ops i, ls.getD j false = true) →
      (∀ j, j < m → ls.getD j false = true → F j (vs j) w) → wpAny P .any ops Q (u + (ops.size - m)) ls (lay ds vs 0 a) w := by
    intro u
    induction u with
    | zero =>
      intro ls vs w hu hsz hrest hB hcl hF
      have hd := undone_zero m ls hu
      have e : ls = doneTo ops.size m := by
        apply Array.ext (by simp [doneTo, hsz])
        intro i h1 h2
        by_cases h : i < m
        · have := hd i h; simp [h1] at this; simp [doneTo, h, this]
        · have := hrest i (by omega) (by omega); simp [h1] at this; simp [doneTo, h, this]
      rw [Nat.zero_add, e]
      exact htail vs w hB (fun j hj => hF j hj (hd j hj))
    | succ u ih =>
      intro ls vs w hu hsz hrest hB hcl hF
      obtain ⟨i0, hi0, hl0, hlow⟩ := undone_pos m ls (by omega)
      rw [show u + 1 + (ops.size - m) = (u + (ops.size - m)) + 1 by omega]
      refine ⟨fun h => ?_, fun i hi => ?_⟩
      · exfalso
        have hlt : i0 < ops.size := by omega
        have hin : i0 ∈ Region.ready .any ops ls := by
          refine mem_ready.2 ⟨?_, ops[i0], by simp [hlt], fun e he hb => ?_⟩
          · rcases Nat.lt_or_ge i0 ls.size with h' | h'
            · simp [h'] at hl0 ⊢; exact hl0
            · omega
          · apply hlow
            have h1 := List.all_eq_true.1 hdep i0 (List.mem_range.2 hi0)
            have h2 := List.all_eq_true.1 h1 e.on (by
              unfold deps
              rw [show ops[i0]? = some ops[i0] by simp [hlt]]
              exact List.mem_map.2 ⟨e, List.mem_filter.2 ⟨by simpa using he, hb⟩, rfl⟩)
            exact of_decide_eq_true h2
        rw [h] at hin
        cases hin
      · obtain ⟨hjun, o, ho, hall⟩ := mem_ready.1 hi
        have hilt : i < ops.size := (Array.getElem?_eq_some_iff.1 ho).1
        have hcl' : ∀ i', (ls.setIfInBounds i true).getD i' false = true → ∀ j ∈ deps ops i', (ls.setIfInBounds i true).getD j false = true := fun i' h' j hj => by
          by_cases e : i = i'
          · subst e; exact set_keep hjun (dep_done ho hall hj)
          · rw [getD_set_ne false e] at h'; exact set_keep hjun (hcl i' h' j hj)
        by_cases him : i < m
        · refine wpOp_mono ?_ (hstep i him vs w hB (fun j hj => hF j ?_ (dep_done ho hall hj)))
          · rintro a' w' ⟨v, rfl, hb, hFi⟩
            have hdi : ds[i]? = some (ds.getD i 0) := by
              rw [List.getElem?_eq_getElem (by omega)]; simp [List.getD, List.getElem?_eq_getElem (show i < ds.length by omega)]
            rw [lay_put ds vs 0 a i _ v hdi hnd, Nat.zero_add]
            refine ih _ _ _ (by have := undone_set m ls i him hjun; omega) (by simp [hsz]) (fun j h1 h2 => ?_) (htr _ _ _ hB hb) hcl' (fun j h1 h2 => ?_)
            · rw [getD_set_ne true (show i ≠ j by omega)]; exact hrest j h1 h2
            · by_cases e : j = i
              · subst e; unfold upd; rw [if_pos rfl]; exact hFi
              · rw [getD_set_ne false (Ne.symm e)] at h2
                unfold upd; rw [if_neg e]
                exact hmono j _ _ _ (hF j h1 h2) hb
          · have h1 := List.all_eq_true.1 hdep i (List.mem_range.2 him)
            have := of_decide_eq_true (List.all_eq_true.1 h1 j hj)
            omega
        · exfalso
          have h1 := List.all_eq_true.1 htw i (List.mem_range.2 hilt)
          simp only [him, decide_false, Bool.false_or] at h1
          have h2 := List.all_eq_true.1 h1 i0 (List.mem_range.2 hi0)
          have := reach_done hcl m _ (fun j hj => dep_done ho hall hj) i0 (List.contains_iff_mem.1 h2)
          rw [hl0] at this
          cases this
  refine wp_region_any hm ?_
  have hl : lay ds (fun i => a.tmps.getD (ds.getD i 0) undef) 0 a = a := lay_self ds _ 0 a (fun k d hk => by simp [List.getD, hk])
  have hfalse : ∀ j, (Array.replicate ops.size false).getD j false = false := fun j => by
    rcases Nat.lt_or_ge j ops.size with h | h
    · simp [h]
    · simp [h]
  have := key m (Array.replicate ops.size false) (fun i => a.tmps.getD (ds.getD i 0) undef) wk.drew (undone_all _ _) (by simp) (fun j _ hj => by simp [hj]) hrefl (fun i h => by rw [hfalse i] at h; cases h) (fun j hj h => by rw [hfalse j] at h; cases h)
  rw [hl, show m + (ops.size - m) = ops.size by omega] at this
  exact this
end
def MonoR (R : World → World → Prop) (f : Value → World → Prop) : Prop := ∀ v w w', f v w → R w w' → f v w'
def AllMonoR (R : World → World → Prop) : List (Value → World → Prop) → Prop
  | [] => True
  | f :: fs => MonoR R f ∧ AllMonoR R fs
theorem Fs_monoR {R : World → World → Prop} : ∀ {fs : List (Value → World → Prop)}, AllMonoR R fs → ∀ i v w w', Fs fs i v w → R w w' → Fs fs i v w'
  | [], _, _, _, _, _, _, _ => trivial
  | f :: fs, h, 0, v, w, w', hf, hb => h.1 v w w' hf hb
  | f :: fs, h, i + 1, v, w, w', hf, hb => Fs_monoR (fs := fs) h.2 i v w w' hf hb
theorem isV_monoR (R : World → World → Prop) (x : Value) : MonoR R (isV x) := fun _ _ _ h _ => h
end Go.Proofs.Ytibpajlfcknegaa.kit
namespace Go.Proofs.Ytibpajlfcknegaa.kit
open Go.ChangeShapes Go.WideShapes Go.ChangeAt Go.RowKit
set_option linter.unusedVariables false

/-- the slice value v reads as the ints l, in a row of ints at or above base -/
def PartI (base : Nat) (w : World) (v : Value) (l : List Int) : Prop :=
  ∃ g o c, v = .slice (some ⟨g, o, none⟩) l.length c ∧ base ≤ g ∧ (∃ cs r, w.heap[g]? = some (.cells cs 3 r)) ∧ ∀ j, j < l.length → w.cell? ⟨g, o + j, none⟩ = some (.int .i64 (l.getD j 0))
theorem PartI.shape {base : Nat} {w : World} {v : Value} {l : List Int} (h : PartI base w v l) : ∃ a c, v = .slice a l.length c := by
  obtain ⟨g, o, c, rfl, _⟩ := h
  exact ⟨_, _, rfl⟩
theorem PartI.mono {base base' : Nat} {w : World} {v : Value} {l : List Int} (h : PartI base w v l) (hb : base' ≤ base) : PartI base' w v l := by
  obtain ⟨g, o, c, hv, hg, h1, h2⟩ := h
  exact ⟨g, o, c, hv, Nat.le_trans hb hg, h1, h2⟩
theorem PartI.same {base : Nat} {w w' : World} {v : Value} {l : List Int} (h : PartI base w v l) (hs : ∀ g, base ≤ g → g < w.heap.size → (∃ cs r, w.heap[g]? = some (.cells cs 3 r)) → w'.heap[g]? = w.heap[g]?) : PartI base w' v l := by
  obtain ⟨g, o, c, hv, hg, ⟨cs, r, hc⟩, h2⟩ := h
  have e := hs g hg (Array.getElem?_eq_some_iff.1 hc).1 ⟨cs, r, hc⟩
  refine ⟨g, o, c, hv, hg, ⟨cs, r, e.trans hc⟩, fun j hj => ?_⟩
  rw [World.cell?_of_block (a := ⟨g, o + j, none⟩) e]
  exact h2 j hj
theorem PartI.later {base : Nat} {w w' : World} {v : Value} {l : List Int} (h : PartI base w v l) (hb : Below w.heap.size w w') : PartI base w' v l :=
  h.same fun g _ hl _ => hb.block g hl
theorem PartI.drew {g0 base : Nat} {w w' : World} {v : Value} {l : List Int} (h : PartI base w v l) (hd : Drew g0 w w') (hg : g0 < base) : PartI base w' v l :=
  h.same fun g hb hl _ => hd.1.block g hl (fun e => by have := Option.some.inj e; omega)
theorem PartI.put {base b : Nat} {w : World} {v : Value} {l : List Int} (h : PartI base w v l) {t : TypeId} {cs : Array Value} (hb : BoxC w b t cs) (hte : t ≠ 3) (j : Nat) (u : Value) : PartI base (w.setCell ⟨b, j, none⟩ u) v l :=
  h.same fun g _ _ ⟨cs', r, hc⟩ => Below.heap_setCell _ _ _ _ (by
    simp only [ne_eq]
    intro e
    subst e
    have := hc.symm.trans hb
    simp at this
    exact hte this.2.1.symm)
theorem PartI.src {base : Nat} {w : World} {v : Value} {l : List Int} (h : PartI base w v l) : SrcI w.heap.size w v l := by
  obtain ⟨g, o, c, rfl, _, ⟨cs, r, hc⟩, h2⟩ := h
  exact SrcI.part (Array.getElem?_eq_some_iff.1 hc).1 rfl h2
/-- the row without its first element -/
theorem OwnI.tail {base g c c' : Nat} {w : World} {x : Int} {l : List Int} {n : Nat} (h : OwnI base w (.slice (some ⟨g, 0, none⟩) n c) (x :: l)) : PartI base w (.slice (some ⟨g, 1, none⟩) l.length c') l := by
  have hr := h.row
  rcases h.2 with ⟨hv, _⟩ | ⟨q, c2, cur, hv, hg, hh, _⟩
  · cases hv
  · cases hv
    refine ⟨g, 1, c', rfl, hg, ⟨_, _, hh⟩, fun j hj => ?_⟩
    have := hr.cellAt (1 + j) (by simp; omega)
    rw [this]
    rw [Nat.add_comm 1 j]
    simp [List.getD, hj]
theorem row_otherI {W : World} {base b : Nat} {v : Value} {l : List Int} (hr : OwnI base W v l) {t : TypeId} {cs : Array Value} (hb : BoxC W b t cs) (hte : t ≠ 3) : v.ownBlock ≠ some b := by
  rcases hr.2 with ⟨rfl, _⟩ | ⟨q, cap, cur, rfl, _, hgb, _⟩
  · simp [Value.ownBlock]
  · intro e'
    obtain rfl : q = b := by simpa [Value.ownBlock] using e'
    have := (show W.heap[q]? = _ from hb).symm.trans hgb
    simp at this
    exact hte this.2
/-- the objects of a drawn machine: a row of the call's own, or a part of one, then not three -/
def ObjV (base : Nat) (w : World) (v : Value) (l : List Int) : Prop := OwnI base w v l ∨ (l.length ≠ 3 ∧ PartI base w v l)
theorem ObjV.shape {base : Nat} {w : World} {v : Value} {l : List Int} (h : ObjV base w v l) : ∃ a c, v = .slice a l.length c := Or.elim h OwnI.shape (fun h => h.2.shape)
theorem ObjV.mono {base base' : Nat} {w : World} {v : Value} {l : List Int} (h : ObjV base w v l) (hb : base' ≤ base) : ObjV base' w v l := Or.imp (fun h => OwnI.mono h hb) (fun h => ⟨h.1, h.2.mono hb⟩) h
theorem ObjV.later {base : Nat} {w w' : World} {v : Value} {l : List Int} (h : ObjV base w v l) (hb : Below w.heap.size w w') : ObjV base w' v l := Or.imp (fun h => h.later hb) (fun h => ⟨h.1, h.2.later hb⟩) h
theorem ObjV.drew {g0 base : Nat} {w w' : World} {v : Value} {l : List Int} (h : ObjV base w v l) (hd : Drew g0 w w') (hg : g0 < base) : ObjV base w' v l := Or.imp (fun h => h.drew hd hg) (fun h => ⟨h.1, h.2.drew hd hg⟩) h
theorem ObjV.put {base b : Nat} {w : World} {v : Value} {l : List Int} (h : ObjV base w v l) {t : TypeId} {cs : Array Value} (hb : BoxC w b t cs) (hte : t ≠ 3) (j : Nat) (u : Value) : ObjV base (w.setCell ⟨b, j, none⟩ u) v l :=
  Or.imp (fun h => ownsRow_setCell_other h (row_otherI h hb hte) _) (fun h => ⟨h.1, h.2.put hb hte j u⟩) h
theorem ObjV.src {base : Nat} {w : World} {v : Value} {l : List Int} (h : ObjV base w v l) : SrcI w.heap.size w v l := Or.elim h SrcI.own (fun h => h.2.src)
theorem ObjV.at {base : Nat} {w : World} {a : Option Addr} {n c : Nat} {l : List Int} (h : ObjV base w (.slice a n c) l) : At w a l := h.src.at (Nat.le_refl _)
/-- ApplyOp of such a machine -/
theorem implApplyOpV (b1 b2 : Nat) (v1 v2 : Value) (L1 : List Int) (L2 : List Sess) (c s k o d v : Int) (w : World) (h1 : L1.length ≤ 4194304) (h2 : L2.length ≤ 4194304) (o1 : ObjV b1 w v1 L1) (o2 : OwnS b2 w v2 L2) :
    Calls Try.prog 7 #[.agg #[v1, v2], opV c s k o d v] w fun e w' => ∃ u1 u2, e = .returned (.tuple #[.agg #[u1, u2], .agg #[.bool (appD L1 L2 c s k o d v), .int .i64 (appV L1 L2 c s k o d v)], .bool (appB L1 L2 c s k o d v)]) ∧
      OwnI w.heap.size w' u1 (appO L1 L2 c s k o d v) ∧ OwnS w.heap.size w' u2 (appS L1 L2 c s k o d v) ∧ Below w.heap.size w w' := by
  rcases o1 with o1 | ⟨h3, o1⟩
  · exact implApplyOp b1 b2 v1 v2 L1 L2 c s k o d v w h1 h2 o1 o2
  · have hm : decide (MOk L1 L2) = false := decide_eq_false (fun h => h3 h.1)
    have hn : appNew L1 L2 c s k o d v = false := by unfold appNew appOk; rw [hm]; simp
    have hsm : appSame L1 L2 c s k o d v = false := by unfold appSame appOk; rw [hm]; simp
    unfold appD appV appB appO appS
    rw [hn, hsm]
    exact appI_noMs v1 v2 L1 L2 c s k o d v w h1 h2 o1.src (SrcS.own o2) (Lib.hid hm)
/-- ApplyOp of such a machine -/
theorem specApplyOpV (b1 b2 : Nat) (v1 v2 : Value) (L1 : List Int) (L2 : List Sess) (c s k o d v : Int) (w : World) (h1 : L1.length ≤ 4194304) (h2 : L2.length ≤ 4194304) (o1 : ObjV b1 w v1 L1) (o2 : OwnS b2 w v2 L2) :
    Calls Try.prog 8 #[.agg #[v1, v2], opV c s k o d v] w fun e w' => ∃ u1 u2, e = .returned (.tuple #[.agg #[u1, u2], .agg #[.bool (appD L1 L2 c s k o d v), .int .i64 (appV L1 L2 c s k o d v)], .bool (appB L1 L2 c s k o d v)]) ∧
      OwnI w.heap.size w' u1 (appO L1 L2 c s k o d v) ∧ OwnS w.heap.size w' u2 (appS L1 L2 c s k o d v) ∧ Below w.heap.size w w' := by
  rcases o1 with o1 | ⟨h3, o1⟩
  · exact specApplyOp b1 b2 v1 v2 L1 L2 c s k o d v w h1 h2 o1 o2
  · have hm : decide (MOk L1 L2) = false := decide_eq_false (fun h => h3 h.1)
    have hn : appNew L1 L2 c s k o d v = false := by unfold appNew appOk; rw [hm]; simp
    have hsm : appSame L1 L2 c s k o d v = false := by unfold appSame appOk; rw [hm]; simp
    unfold appD appV appB appO appS
    rw [hn, hsm]
    exact appL_noMs v1 v2 L1 L2 c s k o d v w h1 h2 o1.src (SrcS.own o2) (Lib.hid hm)
theorem implIsValidMachineV (b1 b2 : Nat) (v1 v2 : Value) (L1 : List Int) (L2 : List Sess) (w : World) (h1 : L1.length ≤ 4194304) (h2 : L2.length ≤ 4194304) (o1 : ObjV b1 w v1 L1) (o2 : OwnS b2 w v2 L2) :
    Calls Try.prog 10 #[.agg #[v1, v2]] w fun e w' => e = .returned (.bool (decide (MOk L1 L2))) ∧ Below w.heap.size w w' := by
  obtain ⟨a1, c1, rfl⟩ := o1.shape
  obtain ⟨a2, c2, rfl, _, _, t2, _⟩ := o2.form
  exact implIsValidMachineA a1 c1 L1 a2 c2 L2 w h1 h2 o1.at t2
theorem specIsValidMachineV (b1 b2 : Nat) (v1 v2 : Value) (L1 : List Int) (L2 : List Sess) (w : World) (h1 : L1.length ≤ 4194304) (h2 : L2.length ≤ 4194304) (o1 : ObjV b1 w v1 L1) (o2 : OwnS b2 w v2 L2) :
    Calls Try.prog 11 #[.agg #[v1, v2]] w fun e w' => e = .returned (.bool (decide (MOk L1 L2))) ∧ Below w.heap.size w w' := by
  obtain ⟨a1, c1, rfl⟩ := o1.shape
  obtain ⟨a2, c2, rfl, _, _, t2, _⟩ := o2.form
  exact specIsValidMachineA a1 c1 L1 a2 c2 L2 w h1 h2 o1.at t2
theorem implEqualMachinesV (b1 b2 : Nat) (v1 v2 : Value) (L1 : List Int) (L2 : List Sess) (b3 b4 : Nat) (v3 v4 : Value) (M1 : List Int) (M2 : List Sess) (w : World) (h1 : L1.length ≤ 4194304) (h2 : L2.length ≤ 4194304) (o1 : OwnI b1 w v1 L1) (o2 : OwnS b2 w v2 L2)
    (k1 : M1.length ≤ 4194304) (k2 : M2.length ≤ 4194304) (o3 : ObjV b3 w v3 M1) (o4 : OwnS b4 w v4 M2) :
    Calls Try.prog 9 #[.agg #[v1, v2], .agg #[v3, v4]] w fun e w' => e = .returned (.bool (decide (L1 = M1 ∧ L2 = M2))) ∧ Below w.heap.size w w' := by
  obtain ⟨a1, c1, rfl, _, _, t1, _⟩ := o1.form
  obtain ⟨a2, c2, rfl, _, _, t2, _⟩ := o2.form
  obtain ⟨a3, c3, rfl⟩ := o3.shape
  obtain ⟨a4, c4, rfl, _, _, t4, _⟩ := o4.form
  exact implEqualMachinesA a1 c1 L1 a2 c2 L2 a3 c3 M1 a4 c4 M2 w h1 h2 k1 k2 t1 t2 o3.at t4
end Go.Proofs.Ytibpajlfcknegaa.kit
namespace Go.Proofs.Ytibpajlfcknegaa.kit
open Go.ChangeShapes Go.WideShapes Go.ChangeAt Go.RowKit
set_option linter.unusedVariables false
set_option linter.unusedSimpArgs false

theorem row_other2 {W : World} {base ga : Nat} {v : Value} {l : List Sess} (hr : OwnS base W v l) {b1 n c : Nat} {L : List Int} (hb : OwnI b1 W (.slice (some ⟨ga, 0, none⟩) n c) L) (hte : 3 ≠ 39) (j : Nat) (u : Value) : OwnS base (W.setCell ⟨ga, j, none⟩ u) v l := by
  refine ownsRow_setCell_other hr ?_ _
  rcases hb.2 with ⟨hv, _⟩ | ⟨q, cap, cur, hv, _, hgb, _⟩
  · cases hv
  · cases hv
    exact row_other hgb hte hr
theorem cellI {b ga n c : Nat} {w : World} {l : List Int} (h : OwnI b w (.slice (some ⟨ga, 0, none⟩) n c) l) (j : Nat) (hj : j < l.length) : w.cell? ⟨ga, j, none⟩ = some (.int .i64 (l.getD j 0)) := by
  rcases h.2 with ⟨hv, _⟩ | ⟨q, cap, cur, hv, hg, hh, _⟩
  · cases hv
  · cases hv
    have := h.row.cellAt j (by omega)
    rw [this]
    simp [List.getD, hj]
def isJ (lo hi : Int) : Value → World → Prop := fun v _ => ∃ y : Int, v = .int .i64 y ∧ lo ≤ y ∧ y < hi
theorem isJ_monoR (R : World → World → Prop) (lo hi : Int) : MonoR R (isJ lo hi) := fun _ _ _ h _ => h
def isFit : Value → World → Prop := fun v _ => ∃ y : Int, v = .int .i64 y ∧ fits y
theorem isFit_monoR (R : World → World → Prop) : MonoR R isFit := fun _ _ _ h _ => h
def isRes : Value → World → Prop := fun v _ => ∃ y : Int, v = .agg #[.bool false, .int .i64 y]
theorem isRes_monoR (R : World → World → Prop) : MonoR R isRes := fun _ _ _ h _ => h
def isSesV : Value → World → Prop := fun v _ => ∃ c s y : Int, v = .agg #[.int .i64 c, .int .i64 s, .bool false, .int .i64 y]
theorem isSesV_monoR (R : World → World → Prop) : MonoR R isSesV := fun _ _ _ h _ => h
def isLit (g n : Nat) (zs : List Int) : Value → World → Prop := fun v w => ∃ b, v = .slice (some ⟨b, 0, none⟩) n n ∧ w.heap[b]? = some (.cells ((zs.map (Value.int .i64)).toArray) 3 (0, 0)) ∧ b ≠ g
theorem isLit_monoR (g n : Nat) (zs : List Int) : MonoR (Drew g) (isLit g n zs) := fun _ _ _ ⟨b, h, h1, h2⟩ hd => ⟨b, h, (hd.1.block b (Array.getElem?_eq_some_iff.1 h1).1 (fun e => h2 (Option.some.inj e))).trans h1, h2⟩
def isSesL (g : Nat) : Value → World → Prop := fun v w => ∃ (b : Nat) (c s y : Int), v = .slice (some ⟨b, 0, none⟩) 1 1 ∧ BoxC w b 39 #[.int .i64 c, .int .i64 s, .bool false, .int .i64 y] ∧ b ≠ g
theorem isSesL_monoR (g : Nat) : MonoR (Drew g) (isSesL g) := fun _ _ _ ⟨b, c, s, y, h, h1, h2⟩ hd => ⟨b, c, s, y, h, h1.drewn hd h2, h2⟩
def isAt (ga n : Nat) : Value → World → Prop := fun v _ => ∃ j : Nat, j < n ∧ v = .pointer (some ⟨ga, j, none⟩)
theorem isAt_monoR (R : World → World → Prop) (ga n : Nat) : MonoR R (isAt ga n) := fun _ _ _ h _ => h
theorem srcS_box {w : World} {b : Nat} {c s y : Int} (h : BoxC w b 39 #[.int .i64 c, .int .i64 s, .bool false, .int .i64 y]) : SrcS w.heap.size w (.slice (some ⟨b, 0, none⟩) 1 1) [(c, s, false, y)] := by
  refine .inr ⟨b, 0, 1, rfl, h.lt, fun j hj => ?_⟩
  obtain rfl : j = 0 := by simpa using hj
  exact ⟨h.c 0 rfl, h.c 1 rfl, h.c 2 rfl, h.c 3 rfl⟩
/-- some machine, its objects perhaps a part of a row -/
def MachAll (g : Nat) (w : World) (e : Ending) (w' : World) : Prop := ∃ (u1 u2 : Value) (L : List Int) (M : List Sess), e = .returned (.agg #[u1, u2]) ∧ L.length ≤ 3 ∧ M.length ≤ 6 ∧ ObjV w.heap.size w' u1 L ∧ OwnS w.heap.size w' u2 M ∧ Drew g w w'
theorem run_tail (W : World) (ga n cap : Nat) (h : 0 < cap) : (Instr.slice 24 (.slice (some ⟨ga, 0, none⟩) (n + 1) (cap + 1)) (some (.int .i64 1)) none none).run Try.prog W = .ok (.slice (some ⟨ga, 1, none⟩) n cap) W := by
  rw [run_slice_l (P := Try.prog) W 24 (some ⟨ga, 0, none⟩) (n + 1) (cap + 1) (by kernel_rfl) .i64 1 (by omega) (by omega)]
  have hs : (sizeOf (Try.prog.elem 24)).run Try.prog W = .ok 1 W := by kernel_rfl
  rw [hs]
  show Result.ok (sliced (some ⟨ga, 0, none⟩) 1 (n + 1) (cap + 1) 1) W = _
  unfold sliced
  have e : ¬ cap = 0 := by omega
  simp [e, Addr.add]
set_option maxRecDepth 100000 in
set_option maxHeartbeats 8000000 in
theorem any4_any (g : Nat) (w : World) (hc : Cur g w) : Calls Try.prog 27 #[.pointer (some ⟨g, 0, none⟩)] w (MachAll g w) := by
  have hgs := hc.lt
  have hng : w.heap.size ≠ g := by omega
  have hD0 := (Drew.refl hc).alloc (.cells #[.slice none 0 0, .slice none 0 0] 27)
  have hR := BoxC.new w 27 #[.slice none 0 0, .slice none 0 0]
  have C1 := Lib.hid (machine_any g _ hD0.2)
  go_enter Try.func27, Try.ntmps27
  go_wp2_with fail
  refine (C1.out).mono ?_
  rintro e w2 ⟨u1, u2, L, M, rfl, hl3, hm5, ho1, ho2, hd1⟩
  have hsz : w.heap.size ≤ (w.alloc (.cells #[.slice none 0 0, .slice none 0 0] 27)).heap.size := by simp
  have hz2 : w.heap.size < w2.heap.size := (hR.drewn hd1 hng).lt
  have hbX := (Below.refl w2.heap.size w2).alloc (Nat.le_refl _) (.cells #[u1, u2] 27)
  have HR := Lib.hid ((hR.drewn hd1 hng).later hbX)
  have HX := Lib.hid (BoxC.new w2 27 #[u1, u2])
  have HD := Lib.hid ((hD0.trans hd1).alloc (.cells #[u1, u2] 27))
  have HO1 := Lib.hid ((OwnI.mono ho1 hsz).later hbX)
  have HO2 := Lib.hid ((OwnS.mono ho2 hsz).later hbX)
  obtain ⟨ga, c1, rfl, hc1, hcm, _, _⟩ := ho1.there (by omega)
  obtain ⟨a2, c2, rfl⟩ := ho2.shape
  obtain ⟨p, hp⟩ : ∃ p, p = w2.heap.size := ⟨_, rfl⟩
  obtain ⟨w3, hw3⟩ : ∃ q, q = w2.alloc (.cells #[.slice (some ⟨ga, 0, none⟩) L.length c1, .slice a2 M.length c2] 27) := ⟨_, rfl⟩
  rw [← hw3] at HR HX HD HO1 HO2
  rw [← hp] at HX
  have HP := Lib.hid hp
  have HW := Lib.hid hw3
  have hpw : w.heap.size < p := by omega
  have hnp : w.heap.size ≠ p := Nat.ne_of_lt hpw
  have hpg : p ≠ g := by omega
  have C3 := Lib.hid (below_small g 14 w3 (by decide) (by decide) HD.out.2)
  have HL3 := Lib.hid hl3
  have hl3' : L.length ≤ 3 := by omega
  have HCM := Lib.hid hcm
  clear C1 hd1 hD0 hR hbX ho1 ho2 hw3 hp hz2 hsz hcm hl3
  go_wp2_with fail
  rw [← HW.out, ← HP.out]
  clear HW HP
  refine (C3.out).mono ?_
  rintro e w4 ⟨k, rfl, hk0, hk1, hdq⟩
  replace HR := Lib.hid (HR.out.drewn hdq hng)
  replace HX := Lib.hid (HX.out.drewn hdq hpg)
  replace HO1 := Lib.hid (HO1.out.drew hdq hgs)
  replace HO2 := Lib.hid (HO2.out.drew hdq hgs)
  replace HD := Lib.hid (HD.out.trans hdq)
  clear hdq C3
  have HREFL := Lib.hid (show Drew g w4 w4.drew from ⟨grown_drewN (grown_refl w4 (some g)) 1, Cur.below HD.out.2 ((Below.refl w4.heap.size w4).drew) HD.out.2.lt⟩)
  have hk : k = 0 ∨ k = 1 ∨ k = 2 ∨ 3 ≤ k := by omega
  rcases hk with rfl | rfl | rfl | hk
  · clear hk0 hk1
    have hlL : L.length ≤ 4194304 := by omega
    go_upto_region 4 with (fail)
    refine region_reachR (m := 8) (Drew g) HREFL.out (fun _ _ _ h k => Drew.trans h k) [10, 11, 12, 13, 14, 15, 16, 17] (Fs [isV (.pointer (some ⟨p, 0, none⟩)), isV (.slice (some ⟨ga, 0, none⟩) L.length c1), isV (.pointer (some ⟨g, 0, none⟩)), isJ 0 3, isV (.pointer (some ⟨g, 0, none⟩)), isLit g 3 [-1, 9, 10], isFit, isAt ga 3]) (by kernel_rfl) (by decide) rfl (by decide) (by kernel_rfl) (by kernel_rfl) (fun _ _ _ _ _ h => h) (Fs_monoR ⟨isV_monoR _ _, isV_monoR _ _, isV_monoR _ _, isJ_monoR _ _ _, isV_monoR _ _, isLit_monoR _ _ _, isFit_monoR _, isAt_monoR _ _ _, trivial⟩) ?step ?tail
    case step =>
      intro i hi vs wq hBq hd
      rcases (show i = 0 ∨ i = 1 ∨ i = 2 ∨ i = 3 ∨ i = 4 ∨ i = 5 ∨ i = 6 ∨ i = 7 from by omega) with rfl | rfl | rfl | rfl | rfl | rfl | rfl | rfl
      · refine wpOp_step (o := _) rfl (fun K' hK => ?_)
        have HK := Lib.hid hK
        clear hK
        simp only [lay, Act.put, List.setIfInBounds_toArray, List.set_cons_zero, List.set_cons_succ, List.getD_cons_zero, List.getD_cons_succ, id_eq]
        go_simp
        refine HK.out _ _ ⟨_, ?_, Drew.refl hBq.2, rfl⟩
        simp only [lay, Act.put, List.setIfInBounds_toArray, List.set_cons_zero, List.set_cons_succ, List.getD_cons_zero, List.getD_cons_succ, id_eq]
      · have e0' : vs 0 = .pointer (some ⟨p, 0, none⟩) := hd 0 (List.contains_iff_mem.1 (by kernel_rfl))
        have z0 := (HX.out.drewn hBq hpg).c 0 rfl
        refine wpOp_step (o := _) rfl (fun K' hK => ?_)
        have HK := Lib.hid hK
        clear hK
        simp only [lay, Act.put, List.setIfInBounds_toArray, List.set_cons_zero, List.set_cons_succ, List.getD_cons_zero, List.getD_cons_succ, id_eq]
        rw [e0']
        go_simp
        refine HK.out _ _ ⟨_, ?_, Drew.refl hBq.2, rfl⟩
        simp only [lay, Act.put, List.setIfInBounds_toArray, List.set_cons_zero, List.set_cons_succ, List.getD_cons_zero, List.getD_cons_succ, id_eq]
        rw [e0']
      · refine wpOp_step (o := _) rfl (fun K' hK => ?_)
        have HK := Lib.hid hK
        clear hK
        simp only [lay, Act.put, List.setIfInBounds_toArray, List.set_cons_zero, List.set_cons_succ, List.getD_cons_zero, List.getD_cons_succ, id_eq]
        go_simp
        refine HK.out _ _ ⟨_, ?_, Drew.refl hBq.2, rfl⟩
        simp only [lay, Act.put, List.setIfInBounds_toArray, List.set_cons_zero, List.set_cons_succ, List.getD_cons_zero, List.getD_cons_succ, id_eq]
      · have e2' : vs 2 = .pointer (some ⟨g, 0, none⟩) := hd 2 (List.contains_iff_mem.1 (by kernel_rfl))
        refine wpOp_step (o := _) rfl (fun K' hK => ?_)
        have HK := Lib.hid hK
        clear hK
        simp only [lay, Act.put, List.setIfInBounds_toArray, List.set_cons_zero, List.set_cons_succ, List.getD_cons_zero, List.getD_cons_succ, id_eq]
        rw [e2']
        go_simp
        go_at_call 44
        refine (below_small g 3 wq (by decide) (by decide) hBq.2).mono ?_
        rintro e w2 ⟨y, rfl, hy0, hy1, hd⟩
        refine HK.out _ _ ⟨_, ?_, hd, ⟨y, rfl, hy0, hy1⟩⟩
        simp only [lay, Act.put, List.setIfInBounds_toArray, List.set_cons_zero, List.set_cons_succ, List.getD_cons_zero, List.getD_cons_succ, id_eq]
        rw [e2']
      · refine wpOp_step (o := _) rfl (fun K' hK => ?_)
        have HK := Lib.hid hK
        clear hK
        simp only [lay, Act.put, List.setIfInBounds_toArray, List.set_cons_zero, List.set_cons_succ, List.getD_cons_zero, List.getD_cons_succ, id_eq]
        go_simp
        refine HK.out _ _ ⟨_, ?_, Drew.refl hBq.2, rfl⟩
        simp only [lay, Act.put, List.setIfInBounds_toArray, List.set_cons_zero, List.set_cons_succ, List.getD_cons_zero, List.getD_cons_succ, id_eq]
      · refine wpOp_step (o := _) rfl (fun K' hK => ?_)
        have HK := Lib.hid hK
        clear hK
        simp only [lay, Act.put, List.setIfInBounds_toArray, List.set_cons_zero, List.set_cons_succ, List.getD_cons_zero, List.getD_cons_succ, id_eq]
        go_simp
        refine HK.out _ _ ⟨_, ?_, (Drew.refl hBq.2).alloc _, ⟨_, rfl, heap_alloc_new _ _, Nat.ne_of_gt hBq.2.lt⟩⟩
        simp only [lay, Act.put, List.setIfInBounds_toArray, List.set_cons_zero, List.set_cons_succ, List.getD_cons_zero, List.getD_cons_succ, id_eq]
      · have e4' : vs 4 = .pointer (some ⟨g, 0, none⟩) := hd 4 (List.contains_iff_mem.1 (by kernel_rfl))
        have hl5 : isLit g 3 [-1, 9, 10] (vs 5) wq := hd 5 (List.contains_iff_mem.1 (by kernel_rfl))
        cases hl5 with | intro b5 hl5 =>
        have e5' := hl5.1
        have k5 := hl5.2.1
        have n5 := hl5.2.2
        clear hl5
        refine wpOp_step (o := _) rfl (fun K' hK => ?_)
        have HK := Lib.hid hK
        clear hK
        simp only [lay, Act.put, List.setIfInBounds_toArray, List.set_cons_zero, List.set_cons_succ, List.getD_cons_zero, List.getD_cons_succ, id_eq]
        rw [e4', e5']
        go_simp
        go_at_call 53
        refine (pickInt_any g b5 3 _ wq (by decide) (by decide) hBq.2 k5 n5 (litsI [-1, 9, 10] (by unfold fits; decide))).mono ?_
        rintro e w2 ⟨y, rfl, hf, hd⟩
        refine HK.out _ _ ⟨_, ?_, hd, ⟨y, rfl, hf⟩⟩
        simp only [lay, Act.put, List.setIfInBounds_toArray, List.set_cons_zero, List.set_cons_succ, List.getD_cons_zero, List.getD_cons_succ, id_eq]
        rw [e4', e5']
      · have e1' : vs 1 = .slice (some ⟨ga, 0, none⟩) L.length c1 := hd 1 (List.contains_iff_mem.1 (by kernel_rfl))
        have hj3 : isJ 0 3 (vs 3) wq := hd 3 (List.contains_iff_mem.1 (by kernel_rfl))
        cases hj3 with | intro j hj3 =>
        have e3' := hj3.1
        have j0 : 0 ≤ j := hj3.2.1
        have j1 : j < 3 := hj3.2.2
        cases Int.eq_ofNat_of_zero_le j0 with | intro jn hjn =>
        subst hjn
        have j2 : jn < L.length := by have := HL3.out; omega
        have j4 : (jn : Int) < (L.length : Int) := by omega
        have j5 : jn < 3 := by omega
        clear hj3
        refine wpOp_step (o := _) rfl (fun K' hK => ?_)
        have HK := Lib.hid hK
        clear hK
        simp only [lay, Act.put, List.setIfInBounds_toArray, List.set_cons_zero, List.set_cons_succ, List.getD_cons_zero, List.getD_cons_succ, id_eq]
        rw [e1', e3']
        go_simp
        refine HK.out _ _ ⟨_, ?_, Drew.refl hBq.2, ⟨jn, j5, rfl⟩⟩
        simp only [lay, Act.put, List.setIfInBounds_toArray, List.set_cons_zero, List.set_cons_succ, List.getD_cons_zero, List.getD_cons_succ, id_eq]
        rw [e1', e3']
    case tail =>
      intro vs wq hBq hf
      simp only [lay, Act.put, List.setIfInBounds_toArray, List.set_cons_zero, List.set_cons_succ, List.getD_cons_zero, List.getD_cons_succ, id_eq]
      have h7 : isAt ga 3 (vs 7) wq := hf 7 (by decide)
      cases h7 with | intro j h7 =>
      have e7 := h7.2
      have hj := h7.1
      have h6 : isFit (vs 6) wq := hf 6 (by decide)
      cases h6 with | intro y h6 =>
      have e6 := h6.1
      clear h6 h7
      rw [e6, e7]
      clear e6 e7
      refine any_all (rs := [8]) (by kernel_rfl) (by simp) ?_
      intro i hi
      simp only [List.mem_cons, List.not_mem_nil, or_false] at hi
      subst hi
      refine wpOp_step (o := _) rfl (fun K' hK => ?_)
      have HK := Lib.hid hK
      clear hK
      have HOq := HO1.out.drew hBq hgs
      have hz := cellI HOq j (by have := HL3.out; omega)
      have hzf := HOq.row.frozenAt j
      go_simp
      refine HK.out _ _ ?_
      clear HK K' hz hzf
      try simp only [Act.put, List.setIfInBounds_toArray, List.set_cons_zero, List.set_cons_succ]
      refine any_done (by kernel_rfl) ?_ _
      have hXq := HX.out.drewn hBq hpg
      have hRq := HR.out.drewn hBq hng
      have HOq := HO1.out.drew hBq hgs
      have hj3 : j < L.length := by have := HL3.out; omega
      have hne1 : p ≠ ga := fun e => (row_otherI HOq hXq (by decide)) (by rw [e]; rfl)
      have hne2 : w.heap.size ≠ ga := fun e => (row_otherI HOq hRq (by decide)) (by rw [e]; rfl)
      have hga := (OwnI.block HOq ga rfl).1
      have HS := Lib.hid (HOq.storedAt j hj3 y).1
      have hM := row_other2 (HO2.out.drew hBq hgs) HOq (by decide) j (.int .i64 y)
      replace HX := Lib.hid (hXq.keep hne1 j (.int .i64 y))
      replace HR := Lib.hid (hRq.keep hne2 j (.int .i64 y))
      replace HD := Lib.hid ((HD.out.trans hBq).setC hga hgs j (.int .i64 y))
      have HM := Lib.hid hM
      have HV := Lib.hid (show ObjV w.heap.size (wq.setCell ⟨ga, j, none⟩ (.int .i64 y)) (.slice (some ⟨ga, 0, none⟩) L.length c1) (L.set j y) from .inl HS.out)
      have hls : (L.set j y).length ≤ 3 := by rw [List.length_set]; exact hl3'
      clear hM hXq hRq HOq hga HREFL HO1 HO2 HS hBq
      have hr0 := HR.out.c 0 rfl
      have hr1 := HR.out.c 1 rfl
      have hf0 := HR.out.f 0
      have hf1 := HR.out.f 1
      have hx0 := HX.out.c 0 rfl
      have hx1 := HX.out.c 1 rfl
      have hg0 := HX.out.f 0
      have hg1 := HX.out.f 1
      clear hj hj3
      go_wp2_with fail
      refine bodyPost_ret (v := .agg #[.slice (some ⟨ga, 0, none⟩) L.length c1, .slice a2 M.length c2]) (by simp [results, Try.results27, go_sem, hr0, hr1, hnp]) rfl ?_
      refine ⟨_, _, L.set j y, M, rfl, hls, by omega, ?_, ?_, ?_⟩
      · exact (HV.out.put HR.out (by decide) 0 _).put (HR.out.put 0 _) (by decide) 1 _
      · exact row_put (row_put HM.out HR.out (by decide) 0 _) (HR.out.put 0 _) (by decide) 1 _
      · exact (HD.out.setC (Nat.le_refl _) hgs 0 _).setC (Nat.le_refl _) hgs 1 _
  · clear hk0 hk1
    obtain ⟨x0, L', rfl⟩ : ∃ x l, L = x :: l := by
      cases L with
      | nil => have := HL3.out; simp at this
      | cons x l => exact ⟨x, l, rfl⟩
    have hL2 : L'.length = 2 := by have := HL3.out; simpa using this
    obtain ⟨c0, rfl⟩ : ∃ c0, c1 = c0 + 1 := ⟨c1 - 1, by simp at hc1; omega⟩
    have HPT := Lib.hid (OwnI.tail (c' := c0) HO1.out)
    have RT := fun W => run_tail W ga L'.length c0 (by simp at hc1; omega)
    rw [List.length_cons] at HX HO1
    have HL2 := Lib.hid hL2
    clear hL2 hc1 hl3'
    have hr0 := HR.out.c 0 rfl
    have hr1 := HR.out.c 1 rfl
    have hf0 := HR.out.f 0
    have hf1 := HR.out.f 1
    have hx0 := HX.out.c 0 rfl
    have hx1 := HX.out.c 1 rfl
    have hg0 := HX.out.f 0
    have hg1 := HX.out.f 1
    go_wp2_with fail
    replace HR := Lib.hid (HR.out.keep hnp 0 (.slice (some ⟨ga, 1, none⟩) L'.length c0))
    have HV := Lib.hid (show ObjV w.heap.size _ (.slice (some ⟨ga, 1, none⟩) L'.length c0) L' from .inr ⟨by rw [HL2.out]; decide, HPT.out.put HX.out (by decide) 0 (.slice (some ⟨ga, 1, none⟩) L'.length c0)⟩)
    replace HO2 := Lib.hid (row_put HO2.out.row HX.out (by decide) 0 (.slice (some ⟨ga, 1, none⟩) L'.length c0))
    replace HD := Lib.hid (HD.out.setC (Nat.le_of_lt hpw) hgs 0 (.slice (some ⟨ga, 1, none⟩) L'.length c0))
    refine bodyPost_ret (v := .agg #[.slice (some ⟨ga, 1, none⟩) L'.length c0, .slice a2 M.length c2]) (by simp [results, Try.results27, go_sem, hr0, hr1, hnp]) rfl ?_
    refine ⟨_, _, L', M, rfl, by rw [HL2.out]; decide, by omega, ?_, ?_, ?_⟩
    · exact (HV.out.put HR.out (by decide) 0 _).put (HR.out.put 0 _) (by decide) 1 _
    · exact row_put (row_put HO2.out HR.out (by decide) 0 _) (HR.out.put 0 _) (by decide) 1 _
    · exact (HD.out.setC (Nat.le_refl _) hgs 0 _).setC (Nat.le_refl _) hgs 1 _
  · clear hk0 hk1
    go_upto_region 8 with (fail)
    refine region_reachR (m := 12) (Drew g) HREFL.out (fun _ _ _ h k => Drew.trans h k) [26, 27, 28, 29, 30, 31, 32, 33, 34, 35, 36, 37] (Fs [isV (.pointer (some ⟨p, 1, none⟩)), isV (.slice a2 M.length c2), isV (.pointer (some ⟨g, 0, none⟩)), isJ 0 4, isV (.pointer (some ⟨g, 0, none⟩)), isJ 0 3, isV (.pointer (some ⟨g, 0, none⟩)), isLit g 2 [0, 10], isFit, isRes, isSesV, isSesL g]) (by kernel_rfl) (by decide) rfl (by decide) (by kernel_rfl) (by kernel_rfl) (fun _ _ _ _ _ h => h) (Fs_monoR ⟨isV_monoR _ _, isV_monoR _ _, isV_monoR _ _, isJ_monoR _ _ _, isV_monoR _ _, isJ_monoR _ _ _, isV_monoR _ _, isLit_monoR _ _ _, isFit_monoR _, isRes_monoR _, isSesV_monoR _, isSesL_monoR _, trivial⟩) ?step ?tail
    case step =>
      intro i hi vs wq hBq hd
      rcases (show i = 0 ∨ i = 1 ∨ i = 2 ∨ i = 3 ∨ i = 4 ∨ i = 5 ∨ i = 6 ∨ i = 7 ∨ i = 8 ∨ i = 9 ∨ i = 10 ∨ i = 11 from by omega) with rfl | rfl | rfl | rfl | rfl | rfl | rfl | rfl | rfl | rfl | rfl | rfl
      · refine wpOp_step (o := _) rfl (fun K' hK => ?_)
        have HK := Lib.hid hK
        clear hK
        simp only [lay, Act.put, List.setIfInBounds_toArray, List.set_cons_zero, List.set_cons_succ, List.getD_cons_zero, List.getD_cons_succ, id_eq]
        go_simp
        refine HK.out _ _ ⟨_, ?_, Drew.refl hBq.2, rfl⟩
        simp only [lay, Act.put, List.setIfInBounds_toArray, List.set_cons_zero, List.set_cons_succ, List.getD_cons_zero, List.getD_cons_succ, id_eq]
      · have e0' : vs 0 = .pointer (some ⟨p, 1, none⟩) := hd 0 (List.contains_iff_mem.1 (by kernel_rfl))
        have z0 := (HX.out.drewn hBq hpg).c 1 rfl
        refine wpOp_step (o := _) rfl (fun K' hK => ?_)
        have HK := Lib.hid hK
        clear hK
        simp only [lay, Act.put, List.setIfInBounds_toArray, List.set_cons_zero, List.set_cons_succ, List.getD_cons_zero, List.getD_cons_succ, id_eq]
        rw [e0']
        go_simp
        refine HK.out _ _ ⟨_, ?_, Drew.refl hBq.2, rfl⟩
        simp only [lay, Act.put, List.setIfInBounds_toArray, List.set_cons_zero, List.set_cons_succ, List.getD_cons_zero, List.getD_cons_succ, id_eq]
        rw [e0']
      · refine wpOp_step (o := _) rfl (fun K' hK => ?_)
        have HK := Lib.hid hK
        clear hK
        simp only [lay, Act.put, List.setIfInBounds_toArray, List.set_cons_zero, List.set_cons_succ, List.getD_cons_zero, List.getD_cons_succ, id_eq]
        go_simp
        refine HK.out _ _ ⟨_, ?_, Drew.refl hBq.2, rfl⟩
        simp only [lay, Act.put, List.setIfInBounds_toArray, List.set_cons_zero, List.set_cons_succ, List.getD_cons_zero, List.getD_cons_succ, id_eq]
      · have e2' : vs 2 = .pointer (some ⟨g, 0, none⟩) := hd 2 (List.contains_iff_mem.1 (by kernel_rfl))
        refine wpOp_step (o := _) rfl (fun K' hK => ?_)
        have HK := Lib.hid hK
        clear hK
        simp only [lay, Act.put, List.setIfInBounds_toArray, List.set_cons_zero, List.set_cons_succ, List.getD_cons_zero, List.getD_cons_succ, id_eq]
        rw [e2']
        go_simp
        go_at_call 44
        refine (below_small g 4 wq (by decide) (by decide) hBq.2).mono ?_
        rintro e w2 ⟨y, rfl, hy0, hy1, hd⟩
        refine HK.out _ _ ⟨_, ?_, hd, ⟨y, rfl, hy0, hy1⟩⟩
        simp only [lay, Act.put, List.setIfInBounds_toArray, List.set_cons_zero, List.set_cons_succ, List.getD_cons_zero, List.getD_cons_succ, id_eq]
        rw [e2']
      · refine wpOp_step (o := _) rfl (fun K' hK => ?_)
        have HK := Lib.hid hK
        clear hK
        simp only [lay, Act.put, List.setIfInBounds_toArray, List.set_cons_zero, List.set_cons_succ, List.getD_cons_zero, List.getD_cons_succ, id_eq]
        go_simp
        refine HK.out _ _ ⟨_, ?_, Drew.refl hBq.2, rfl⟩
        simp only [lay, Act.put, List.setIfInBounds_toArray, List.set_cons_zero, List.set_cons_succ, List.getD_cons_zero, List.getD_cons_succ, id_eq]
      · have e4' : vs 4 = .pointer (some ⟨g, 0, none⟩) := hd 4 (List.contains_iff_mem.1 (by kernel_rfl))
        refine wpOp_step (o := _) rfl (fun K' hK => ?_)
        have HK := Lib.hid hK
        clear hK
        simp only [lay, Act.put, List.setIfInBounds_toArray, List.set_cons_zero, List.set_cons_succ, List.getD_cons_zero, List.getD_cons_succ, id_eq]
        rw [e4']
        go_simp
        go_at_call 44
        refine (below_small g 3 wq (by decide) (by decide) hBq.2).mono ?_
        rintro e w2 ⟨y, rfl, hy0, hy1, hd⟩
        refine HK.out _ _ ⟨_, ?_, hd, ⟨y, rfl, hy0, hy1⟩⟩
        simp only [lay, Act.put, List.setIfInBounds_toArray, List.set_cons_zero, List.set_cons_succ, List.getD_cons_zero, List.getD_cons_succ, id_eq]
        rw [e4']
      · refine wpOp_step (o := _) rfl (fun K' hK => ?_)
        have HK := Lib.hid hK
        clear hK
        simp only [lay, Act.put, List.setIfInBounds_toArray, List.set_cons_zero, List.set_cons_succ, List.getD_cons_zero, List.getD_cons_succ, id_eq]
        go_simp
        refine HK.out _ _ ⟨_, ?_, Drew.refl hBq.2, rfl⟩
        simp only [lay, Act.put, List.setIfInBounds_toArray, List.set_cons_zero, List.set_cons_succ, List.getD_cons_zero, List.getD_cons_succ, id_eq]
      · refine wpOp_step (o := _) rfl (fun K' hK => ?_)
        have HK := Lib.hid hK
        clear hK
        simp only [lay, Act.put, List.setIfInBounds_toArray, List.set_cons_zero, List.set_cons_succ, List.getD_cons_zero, List.getD_cons_succ, id_eq]
        go_simp
        refine HK.out _ _ ⟨_, ?_, (Drew.refl hBq.2).alloc _, ⟨_, rfl, heap_alloc_new _ _, Nat.ne_of_gt hBq.2.lt⟩⟩
        simp only [lay, Act.put, List.setIfInBounds_toArray, List.set_cons_zero, List.set_cons_succ, List.getD_cons_zero, List.getD_cons_succ, id_eq]
      · have e6' : vs 6 = .pointer (some ⟨g, 0, none⟩) := hd 6 (List.contains_iff_mem.1 (by kernel_rfl))
        have hl7 : isLit g 2 [0, 10] (vs 7) wq := hd 7 (List.contains_iff_mem.1 (by kernel_rfl))
        cases hl7 with | intro b7 hl7 =>
        have e7' := hl7.1
        have k7 := hl7.2.1
        have n7 := hl7.2.2
        clear hl7
        refine wpOp_step (o := _) rfl (fun K' hK => ?_)
        have HK := Lib.hid hK
        clear hK
        simp only [lay, Act.put, List.setIfInBounds_toArray, List.set_cons_zero, List.set_cons_succ, List.getD_cons_zero, List.getD_cons_succ, id_eq]
        rw [e6', e7']
        go_simp
        go_at_call 53
        refine (pickInt_any g b7 2 _ wq (by decide) (by decide) hBq.2 k7 n7 (litsI [0, 10] (by unfold fits; decide))).mono ?_
        rintro e w2 ⟨y, rfl, hf, hd⟩
        refine HK.out _ _ ⟨_, ?_, hd, ⟨y, rfl, hf⟩⟩
        simp only [lay, Act.put, List.setIfInBounds_toArray, List.set_cons_zero, List.set_cons_succ, List.getD_cons_zero, List.getD_cons_succ, id_eq]
        rw [e6', e7']
      · have hl8 : isFit (vs 8) wq := hd 8 (List.contains_iff_mem.1 (by kernel_rfl))
        cases hl8 with | intro y hl8 =>
        have e8' := hl8.1
        refine wpOp_step (o := _) rfl (fun K' hK => ?_)
        have HK := Lib.hid hK
        clear hK
        simp only [lay, Act.put, List.setIfInBounds_toArray, List.set_cons_zero, List.set_cons_succ, List.getD_cons_zero, List.getD_cons_succ, id_eq]
        rw [e8']
        go_simp
        refine HK.out _ _ ⟨_, ?_, Drew.refl hBq.2, ⟨y, rfl⟩⟩
        simp only [lay, Act.put, List.setIfInBounds_toArray, List.set_cons_zero, List.set_cons_succ, List.getD_cons_zero, List.getD_cons_succ, id_eq]
        rw [e8']
      · have hl3 : isJ 0 4 (vs 3) wq := hd 3 (List.contains_iff_mem.1 (by kernel_rfl))
        cases hl3 with | intro x3 hl3 =>
        have e3' := hl3.1
        have hl5 : isJ 0 3 (vs 5) wq := hd 5 (List.contains_iff_mem.1 (by kernel_rfl))
        cases hl5 with | intro x5 hl5 =>
        have e5' := hl5.1
        have hl9 : isRes (vs 9) wq := hd 9 (List.contains_iff_mem.1 (by kernel_rfl))
        cases hl9 with | intro x9 hl9 =>
        have e9' := hl9
        refine wpOp_step (o := _) rfl (fun K' hK => ?_)
        have HK := Lib.hid hK
        clear hK
        simp only [lay, Act.put, List.setIfInBounds_toArray, List.set_cons_zero, List.set_cons_succ, List.getD_cons_zero, List.getD_cons_succ, id_eq]
        rw [e3', e5', e9']
        go_simp
        refine HK.out _ _ ⟨_, ?_, Drew.refl hBq.2, ⟨x3, x5, x9, rfl⟩⟩
        simp only [lay, Act.put, List.setIfInBounds_toArray, List.set_cons_zero, List.set_cons_succ, List.getD_cons_zero, List.getD_cons_succ, id_eq]
        rw [e3', e5', e9']
      · have hl10 : isSesV (vs 10) wq := hd 10 (List.contains_iff_mem.1 (by kernel_rfl))
        cases hl10 with | intro x3 hl10 =>
        cases hl10 with | intro x5 hl10 =>
        cases hl10 with | intro x9 hl10 =>
        have e10' := hl10
        refine wpOp_step (o := _) rfl (fun K' hK => ?_)
        have HK := Lib.hid hK
        clear hK
        simp only [lay, Act.put, List.setIfInBounds_toArray, List.set_cons_zero, List.set_cons_succ, List.getD_cons_zero, List.getD_cons_succ, id_eq]
        rw [e10']
        go_simp
        refine HK.out _ _ ⟨_, ?_, (Drew.refl hBq.2).alloc _, ⟨_, x3, x5, x9, rfl, BoxC.new _ _ _, Nat.ne_of_gt hBq.2.lt⟩⟩
        simp only [lay, Act.put, List.setIfInBounds_toArray, List.set_cons_zero, List.set_cons_succ, List.getD_cons_zero, List.getD_cons_succ, id_eq]
        rw [e10']
    case tail =>
      intro vs wq hBq hf
      simp only [lay, Act.put, List.setIfInBounds_toArray, List.set_cons_zero, List.set_cons_succ, List.getD_cons_zero, List.getD_cons_succ, id_eq]
      have e1 : vs 1 = .slice a2 M.length c2 := hf 1 (by decide)
      have h11 : isSesL g (vs 11) wq := hf 11 (by decide)
      cases h11 with | intro b h11 =>
      cases h11 with | intro x3 h11 =>
      cases h11 with | intro x5 h11 =>
      cases h11 with | intro x9 h11 =>
      have e11 := h11.1
      have hbx := h11.2.1
      clear h11
      rw [e1, e11]
      clear e1 e11
      refine any_all (rs := [12]) (by kernel_rfl) (by simp) ?_
      intro i hi
      simp only [List.mem_cons, List.not_mem_nil, or_false] at hi
      subst hi
      refine wpOp_step (o := _) rfl (fun K' hK => ?_)
      have HK := Lib.hid hK
      clear hK
      have HOq := HO2.out.drew hBq hgs
      have hsl := srcS_box hbx
      refine wp_appS (.tmp 27) (.tmp 37) rfl w.heap.size _ M rfl HOq _ _ [(x3, x5, false, x9)] rfl hsl (by simp; omega) (Nat.le_trans (Nat.le_of_lt HR.out.lt) hBq.1.size) ?_
      intro v' w6 ho6 hb6 hg6
      have hXq := (HX.out.drewn hBq hpg).past (by decide) HOq.row hg6
      have hRq := (HR.out.drewn hBq hng).past (by decide) HOq.row hg6
      have hDq := (HD.out.trans hBq).below hb6 hgs
      have hO1q := rows_past (HO1.out.drew hBq hgs).row HOq.row (by decide) hg6
      have hlm : (M ++ [(x3, x5, false, x9)]).length ≤ 6 := by simp; omega
      generalize M ++ [(x3, x5, false, x9)] = MM at ho6 hlm
      have hsh := OwnS.shape ho6
      cases hsh with | intro va hsh =>
      cases hsh with | intro vc hv =>
      subst hv
      refine HK.out _ _ ?_
      clear HK K' hb6 hg6 hsl HOq hbx
      try simp only [Act.put, List.setIfInBounds_toArray, List.set_cons_zero, List.set_cons_succ]
      refine any_all (rs := [13]) (by kernel_rfl) (by simp) ?_
      intro i hi
      simp only [List.mem_cons, List.not_mem_nil, or_false] at hi
      subst hi
      refine wpOp_step (o := _) rfl (fun K' hK => ?_)
      have HK := Lib.hid hK
      clear hK
      go_simp
      refine HK.out _ _ ?_
      clear HK K'
      try simp only [Act.put, List.setIfInBounds_toArray, List.set_cons_zero, List.set_cons_succ]
      refine any_all (rs := [14]) (by kernel_rfl) (by simp) ?_
      intro i hi
      simp only [List.mem_cons, List.not_mem_nil, or_false] at hi
      subst hi
      refine wpOp_step (o := _) rfl (fun K' hK => ?_)
      have HK := Lib.hid hK
      clear hK
      have r0 := hXq.c 1 rfl
      have f0 := hXq.f 1
      go_simp
      refine HK.out _ _ ?_
      clear HK K' r0 f0
      try simp only [Act.put, List.setIfInBounds_toArray, List.set_cons_zero, List.set_cons_succ]
      refine any_done (by kernel_rfl) ?_ _
      have HS := Lib.hid (row_put ho6.row hXq (by decide) 1 (.slice va MM.length vc))
      have HV := Lib.hid ((show ObjV w.heap.size w6 (.slice (some ⟨ga, 0, none⟩) L.length c1) L from .inl hO1q).put hXq (by decide) 1 (.slice va MM.length vc))
      replace HX := Lib.hid (hXq.put 1 (.slice va MM.length vc))
      replace HR := Lib.hid (hRq.keep hnp 1 (.slice va MM.length vc))
      replace HD := Lib.hid (hDq.setC (Nat.le_of_lt hpw) hgs 1 (.slice va MM.length vc))
      clear hXq hRq hDq hO1q ho6 HREFL HO1 HO2 hBq
      have hr0 := HR.out.c 0 rfl
      have hr1 := HR.out.c 1 rfl
      have hf0 := HR.out.f 0
      have hf1 := HR.out.f 1
      have hx0 := HX.out.c 0 rfl
      have hx1 := HX.out.c 1 rfl
      have hg0 := HX.out.f 0
      have hg1 := HX.out.f 1
      go_wp2_with fail
      refine bodyPost_ret (v := .agg #[.slice (some ⟨ga, 0, none⟩) L.length c1, .slice va MM.length vc]) (by simp [results, Try.results27, go_sem, hr0, hr1, hnp]) rfl ?_
      refine ⟨_, _, L, MM, rfl, hl3', hlm, ?_, ?_, ?_⟩
      · exact (HV.out.put HR.out (by decide) 0 _).put (HR.out.put 0 _) (by decide) 1 _
      · exact row_put (row_put HS.out HR.out (by decide) 0 _) (HR.out.put 0 _) (by decide) 1 _
      · exact (HD.out.setC (Nat.le_refl _) hgs 0 _).setC (Nat.le_refl _) hgs 1 _
  · have g0 : (k == 0) = false := by rw [beq_eq_false_iff_ne]; omega
    have g1 : (k == 1) = false := by rw [beq_eq_false_iff_ne]; omega
    have g2 : (k == 2) = false := by rw [beq_eq_false_iff_ne]; omega
    clear hk hk0 hk1
    have HV := Lib.hid (show ObjV w.heap.size w4 (.slice (some ⟨ga, 0, none⟩) L.length c1) L from .inl HO1.out)
    have hr0 := HR.out.c 0 rfl
    have hr1 := HR.out.c 1 rfl
    have hf0 := HR.out.f 0
    have hf1 := HR.out.f 1
    have hx0 := HX.out.c 0 rfl
    have hx1 := HX.out.c 1 rfl
    have hg0 := HX.out.f 0
    have hg1 := HX.out.f 1
    go_wp2_with fail
    refine bodyPost_ret (v := .agg #[.slice (some ⟨ga, 0, none⟩) L.length c1, .slice a2 M.length c2]) (by simp [results, Try.results27, go_sem, hr0, hr1, hnp]) rfl ?_
    refine ⟨_, _, L, M, rfl, by omega, by omega, ?_, ?_, ?_⟩
    · exact (HV.out.put HR.out (by decide) 0 _).put (HR.out.put 0 _) (by decide) 1 _
    · exact row_put (row_put HO2.out.row HR.out (by decide) 0 _) (HR.out.put 0 _) (by decide) 1 _
    · exact (HD.out.setC (Nat.le_refl _) hgs 0 _).setC (Nat.le_refl _) hgs 1 _
set_option maxRecDepth 100000 in
set_option maxHeartbeats 4000000 in
theorem drawApplyOp (A : Option Addr) (len cap : Nat) (zs : List Int) (w : World) (hc : Code w A len cap zs) : Calls Try.prog 6 #[.slice A len cap] w fun e w' => ∃ (u1 u2 : Value) (L : List Int) (M : List Sess) (c s k o d v : Int), e = .returned (.tuple #[.agg #[u1, u2], .agg #[.int .i64 c, .int .i64 s, .int .i64 k, .int .i64 o, .int .i64 d, .int .i64 v]]) ∧ L.length ≤ 3 ∧ M.length ≤ 6 ∧ ObjV w.heap.size w' u1 L ∧ OwnS w.heap.size w' u2 M ∧ Below w.heap.size w w' := by
  have hbM := (Below.refl w.heap.size w).alloc (Nat.le_refl _) (.cells #[.slice none 0 0, .slice none 0 0] 27)
  have hbO := (Below.refl (w.alloc (.cells #[.slice none 0 0, .slice none 0 0] 27)).heap.size (w.alloc (.cells #[.slice none 0 0, .slice none 0 0] 27))).alloc (Nat.le_refl _) (.cells #[.int .i64 0, .int .i64 0, .int .i64 0, .int .i64 0, .int .i64 0, .int .i64 0] 29)
  have hb0 := hbM.trans (hbO.mono (by simp))
  have hR := (BoxC.new w 27 #[.slice none 0 0, .slice none 0 0]).later hbO
  have hQ := BoxC.new (w.alloc (.cells #[.slice none 0 0, .slice none 0 0] 27)) 29 #[.int .i64 0, .int .i64 0, .int .i64 0, .int .i64 0, .int .i64 0, .int .i64 0]
  rw [World.size_alloc] at hQ
  have hc0 := hc.below hb0
  have C1 := Lib.hid (new_any A len cap zs _ hc0.row hc0.low)
  simp only [World.size_alloc] at C1
  go_enter Try.func6, Try.ntmps6
  go_wp2_with fail
  refine (C1.out).mono ?_
  rintro e w1 ⟨rfl, hcur, hb1⟩
  have hng : w.heap.size ≠ w.heap.size + 1 + 1 := by omega
  have hng1 : w.heap.size + 1 ≠ w.heap.size + 1 + 1 := by omega
  have hbz : Below ((w.alloc (.cells #[.slice none 0 0, .slice none 0 0] 27)).alloc (.cells #[.int .i64 0, .int .i64 0, .int .i64 0, .int .i64 0, .int .i64 0, .int .i64 0] 29)).heap.size ((w.alloc (.cells #[.slice none 0 0, .slice none 0 0] 27)).alloc (.cells #[.int .i64 0, .int .i64 0, .int .i64 0, .int .i64 0, .int .i64 0, .int .i64 0] 29)) w1 := by simpa using hb1
  have hB1 := hb0.trans (hbz.mono (by simp; omega))
  have hR1 := hR.later hbz
  have hQ1 := hQ.later hbz
  have C2 := Lib.hid (any4_any (w.heap.size + 1 + 1) w1 hcur)
  have hlt := hcur.lt
  clear C1 hc0 hc hb0 hb1 hR hQ hbM hbO hbz
  go_wp2_with fail
  refine (C2.out).mono ?_
  rintro e w2 ⟨u1, u2, L, M, rfl, hl1, hl2, ho1, ho2, hd2⟩
  obtain ⟨a1, c1, rfl⟩ := ho1.shape
  obtain ⟨a2, c2, rfl⟩ := ho2.shape
  have hB2 := drew_below hB1 (by omega) hd2
  have hR2 := hR1.drewn hd2 hng
  have hQ2 := hQ1.drewn hd2 hng1
  have j0 := anyOp_any (w.heap.size + 1 + 1) w2 hd2.2
  unfold opV at j0
  have C3 := Lib.hid j0
  clear C2 j0
  go_wp2_with fail
  refine (C3.out).mono ?_
  rintro e w3 ⟨c, s, k, o, d, v, rfl, hd3⟩
  have HR := Lib.hid (hR2.drewn hd3 hng)
  have HQ := Lib.hid (hQ2.drewn hd3 hng1)
  have HB := Lib.hid (drew_below hB2 (by omega) hd3)
  have HO1 := Lib.hid (show ObjV w.heap.size w3 (.slice a1 L.length c1) L from (ho1.drew hd3 hlt).mono (by omega))
  have HO2 := Lib.hid (show OwnS w.heap.size w3 (.slice a2 M.length c2) M from (ho2.drew hd3 hlt).mono (by omega))
  clear C3 hd2 hd3 ho1 ho2 hB1 hB2 hR1 hR2 hQ1 hQ2 hcur
  have r0 := HR.out.c 0 rfl
  have r1 := HR.out.c 1 rfl
  have f0 := HR.out.f 0
  have f1 := HR.out.f 1
  have q0 := HQ.out.c 0 rfl
  have q1 := HQ.out.c 1 rfl
  have q2 := HQ.out.c 2 rfl
  have q3 := HQ.out.c 3 rfl
  have q4 := HQ.out.c 4 rfl
  have q5 := HQ.out.c 5 rfl
  have p0 := HQ.out.f 0
  have p1 := HQ.out.f 1
  have p2 := HQ.out.f 2
  have p3 := HQ.out.f 3
  have p4 := HQ.out.f 4
  have p5 := HQ.out.f 5
  have hn1 : w.heap.size ≠ w.heap.size + 1 := by omega
  go_wp2_with fail
  refine bodyPost_ret (v := .tuple #[.agg #[.slice a1 L.length c1, .slice a2 M.length c2], .agg #[.int .i64 c, .int .i64 s, .int .i64 k, .int .i64 o, .int .i64 d, .int .i64 v]]) (by simp [results, Try.results6, go_sem, r0, r1, q0, q1, q2, q3, q4, q5]) rfl ?_
  have HV := Lib.hid ((HO1.out.put HR.out (by decide) 0 (.slice a1 L.length c1)).put (HR.out.put 0 _) (by decide) 1 (.slice a2 M.length c2))
  have HW := Lib.hid (row_put (row_put HO2.out HR.out (by decide) 0 (.slice a1 L.length c1)) (HR.out.put 0 _) (by decide) 1 (.slice a2 M.length c2))
  have HQ2 := Lib.hid ((HQ.out.keep (fun e => hn1 e.symm) 0 (.slice a1 L.length c1)).keep (fun e => hn1 e.symm) 1 (.slice a2 M.length c2))
  refine ⟨_, _, L, M, c, s, k, o, d, v, rfl, hl1, hl2, ?_, ?_, ?_⟩
  · exact (((((HV.out.put HQ2.out (by decide) 0 _).put (HQ2.out.put 0 _) (by decide) 1 _).put ((HQ2.out.put 0 _).put 1 _) (by decide) 2 _).put (((HQ2.out.put 0 _).put 1 _).put 2 _) (by decide) 3 _).put ((((HQ2.out.put 0 _).put 1 _).put 2 _).put 3 _) (by decide) 4 _).put (((((HQ2.out.put 0 _).put 1 _).put 2 _).put 3 _).put 4 _) (by decide) 5 _
  · exact row_put (row_put (row_put (row_put (row_put (row_put HW.out HQ2.out (by decide) 0 _) (HQ2.out.put 0 _) (by decide) 1 _) ((HQ2.out.put 0 _).put 1 _) (by decide) 2 _) (((HQ2.out.put 0 _).put 1 _).put 2 _) (by decide) 3 _) ((((HQ2.out.put 0 _).put 1 _).put 2 _).put 3 _) (by decide) 4 _) (((((HQ2.out.put 0 _).put 1 _).put 2 _).put 3 _).put 4 _) (by decide) 5 _
  · exact (((((((HB.out.setCell (p := ⟨w.heap.size, 0, none⟩) (Nat.le_refl _) _).setCell (p := ⟨w.heap.size, 1, none⟩) (Nat.le_refl _) _).setCell (p := ⟨w.heap.size + 1, 0, none⟩) (Nat.le_succ _) _).setCell (p := ⟨w.heap.size + 1, 1, none⟩) (Nat.le_succ _) _).setCell (p := ⟨w.heap.size + 1, 2, none⟩) (Nat.le_succ _) _).setCell (p := ⟨w.heap.size + 1, 3, none⟩) (Nat.le_succ _) _).setCell (p := ⟨w.heap.size + 1, 4, none⟩) (Nat.le_succ _) _).setCell (p := ⟨w.heap.size + 1, 5, none⟩) (Nat.le_succ _) _
end Go.Proofs.Ytibpajlfcknegaa.kit
namespace Go.Proofs.Ytibpajlfcknegaa.kit
open Go.ChangeShapes Go.WideShapes Go.ChangeAt Go.RowKit
set_option linter.unusedVariables false

theorem findS_mem {x : Sess} {c : Int} : ∀ {l : List Sess}, l.Pairwise ltS → x ∈ l → x.1 = c → findS l c = some x
  | [], _, h, _ => by simp at h
  | y :: l, hp, h, hc => by
    rw [List.pairwise_cons] at hp
    unfold findS
    rw [List.find?_cons]
    rcases List.mem_cons.1 h with e | e
    · subst e; simp [hc]
    · have hlt := hp.1 x e
      unfold ltS at hlt
      have : (y.1 == c) = false := by rw [beq_eq_false_iff_ne]; omega
      rw [this]
      exact findS_mem hp.2 e hc
theorem pair_sessAsc {l : List Sess} (hp : l.Pairwise ltS) (hk : ∀ z, z ∈ l → sessOk z = true) : ∀ j, j < l.length → sessAsc l j := by
  intro j hj
  have hg : ∀ i (h : i < l.length), sg l i = l[i] := fun i h => by unfold sg; rw [List.getD_eq_getElem?_getD, List.getElem?_eq_getElem h]; rfl
  refine ⟨by rw [hg j hj]; exact hk _ (List.getElem_mem hj), fun h0 => ?_⟩
  rw [hg j hj, hg (j - 1) (by omega)]
  exact List.pairwise_iff_getElem.1 hp (j - 1) j (by omega) hj (by omega)
theorem mem_sessOk {l : List Sess} (h : ∀ j, j < l.length → sessAsc l j) : ∀ z, z ∈ l → sessOk z = true := by
  intro z hz
  obtain ⟨j, hj, rfl⟩ := List.mem_iff_getElem.1 hz
  have := (h j hj).1
  unfold sg at this
  rw [List.getD_eq_getElem?_getD, List.getElem?_eq_getElem hj] at this
  exact this
theorem setO_ok {L : List Int} {n : Nat} {k d v : Int} (h : ∀ j, j < L.length → okV (L.getD j 0) = true) (hv : okV v = true) : ∀ j, j < (setO L n k d v).length → okV ((setO L n k d v).getD j 0) = true := by
  intro j hj
  rw [setO_len] at hj
  unfold setO
  split
  · rw [List.getD_eq_getElem?_getD, List.getElem?_set]
    by_cases e : n = j
    · subst e; rw [if_pos rfl, if_pos hj]; exact hv
    · rw [if_neg e, ← List.getD_eq_getElem?_getD]; exact h j hj
  · exact h j hj
/-- an operation that was performed is known behind it, with its answer -/
theorem app_known {L1 : List Int} {L2 : List Sess} {c s k o d v : Int} (h : appB L1 L2 c s k o d v = true) :
    okOp c s k o d v = true ∧ MOk (appO L1 L2 c s k o d v) (appS L1 L2 c s k o d v) ∧ hasSess (appS L1 L2 c s k o d v) c = true ∧
    sessOf (appS L1 L2 c s k o d v) c = (c, s, appD L1 L2 c s k o d v, appV L1 L2 c s k o d v) := by
  unfold appO appS appD appV
  by_cases hn : appNew L1 L2 c s k o d v = true
  · simp only [hn, if_true]
    have ho : appOk L1 L2 c s k o d v = true := by unfold appNew at hn; simp only [Bool.and_eq_true] at hn; exact hn.1
    unfold appOk at ho
    rw [Bool.and_eq_true, decide_eq_true_iff] at ho
    obtain ⟨⟨m1, m2, m3⟩, hok⟩ := ho
    have hop := hok
    unfold okOp at hok
    simp only [Bool.and_eq_true] at hok
    obtain ⟨⟨⟨⟨kc, ks⟩, ko⟩, kv⟩, -⟩ := hok
    have hp := sessAsc_pair m3
    have hip := insR_asc (c, s, doneO k d (L1.getD o.toNat 0), L1.getD o.toNat 0) L2 hp
    have hx : (c, s, doneO k d (L1.getD o.toNat 0), L1.getD o.toNat 0) ∈ insR L2 (c, s, doneO k d (L1.getD o.toNat 0), L1.getD o.toNat 0) := (insR_mem _ _ hp _).2 (.inl rfl)
    have hf := findS_mem hip hx rfl
    have hold : okV (L1.getD o.toNat 0) = true := m2 _ (by unfold okC at ko; simp at ko; omega)
    refine ⟨hop, ⟨by rw [setO_len]; exact m1, setO_ok m2 kv, pair_sessAsc hip (fun z hz => ?_)⟩, by unfold hasSess; rw [hf]; rfl, by unfold sessOf; rw [hf]; rfl⟩
    rcases (insR_mem _ _ hp z).1 hz with e | ⟨-, e⟩
    · subst e; unfold sessOk; simp only [Bool.and_eq_true]; exact ⟨kc, ks, hold⟩
    · exact mem_sessOk m3 z e
  · have hs : appSame L1 L2 c s k o d v = true := by unfold appB at h; rw [Bool.or_eq_true] at h; exact h.resolve_left hn
    rw [Bool.not_eq_true] at hn
    simp only [hn, hs, if_true, if_false, Bool.false_eq_true]
    have hs' := hs
    unfold appSame appOk at hs'
    simp only [Bool.and_eq_true, decide_eq_true_iff, beq_iff_eq] at hs'
    obtain ⟨⟨hm, hop⟩, hh, he⟩ := hs'
    have hc := (has_sessOf hh).2
    refine ⟨hop, hm, hh, ?_⟩
    generalize sessOf L2 c = y at *
    obtain ⟨y1, y2, y3, y4⟩ := y
    simp only at hc he ⊢
    rw [hc, he]
/-- the same operation again: the same answer, and nothing changes -/
theorem app_again {L1 : List Int} {L2 : List Sess} {c s k o d v : Int} (h : appB L1 L2 c s k o d v = true) (A : List Int) (B : List Sess) (hA : A = appO L1 L2 c s k o d v) (hB : B = appS L1 L2 c s k o d v) :
    appB A B c s k o d v = true ∧ appO A B c s k o d v = A ∧ appS A B c s k o d v = B ∧ appD A B c s k o d v = appD L1 L2 c s k o d v ∧ appV A B c s k o d v = appV L1 L2 c s k o d v := by
  obtain ⟨hop, hm, hh, he⟩ := app_known h
  rw [← hA, ← hB] at hm
  rw [← hB] at hh he
  have hok : appOk A B c s k o d v = true := by unfold appOk; rw [decide_eq_true hm, hop]; rfl
  have hn : appNew A B c s k o d v = false := by unfold appNew; rw [hok, hh, he]; simp
  have hs : appSame A B c s k o d v = true := by unfold appSame; rw [hok, hh, he]; simp
  unfold appB appO appS
  refine ⟨by rw [hs, Bool.or_true], by rw [hn]; rfl, by rw [hn]; rfl, ?_, ?_⟩
  · conv => lhs; unfold appD
    rw [hn, hs, he]; rfl
  · conv => lhs; unfold appV
    rw [hn, hs, he]; rfl
end Go.Proofs.Ytibpajlfcknegaa.kit
namespace Go.Proofs.Ytibpajlfcknegaa.kit
open Go.ChangeShapes Go.WideShapes Go.ChangeAt Go.RowKit
set_option linter.unusedVariables false

structure LaterOf (w : World) where
  W : World
  h : Below w.heap.size w W
instance (w : World) : Inhabited (LaterOf w) := ⟨⟨w, Below.refl _ _⟩⟩
theorem wp_region_later {P : Program} {id : Nat} {Q : Exit → Act → World → Prop} {a : Act} {w : World} {l : List Oper} (hm : P.follows .mixedOrders = true) (hB : Region.lexB .any l.toArray = true)
    (h : wpQuiet P l.toArray (fun w' => ∃ p : LaterOf w, w' = p.W) (fun a' => ∀ w', (∃ p : LaterOf w, w' = p.W) → Q .normal a' w') l a) : (Code.region id l.toArray true).wp P Q a w :=
  wp_region_quiet (C := fun w' => ∃ p : LaterOf w, w' = p.W) hm hB ⟨⟨w.drew, (Below.refl _ _).drew⟩, rfl⟩ (by simpa using h)
theorem LaterOf.cell {w : World} {a : Addr} {v : Value} (hb : a.block < w.heap.size) (h : w.cell? a = some v) (p : LaterOf w) : p.W.cell? a = some v := (p.h.cell hb).trans h
theorem Calls.later_of {P : Program} {f : FuncId} {args : Array Value} {w : World} {p : LaterOf w} {v : Value}
    (h : Calls P f args p.W fun e w' => e = .returned v ∧ Below p.W.heap.size p.W w') : Calls P f args p.W fun e w'' => e = .returned v ∧ ∃ q : LaterOf w, w'' = q.W :=
  h.mono fun _ w' ⟨he, hb⟩ => ⟨he, ⟨w', p.h.trans (hb.mono p.h.size)⟩, rfl⟩
theorem same_below {P : Program} {f : FuncId} {args : Array Value} {w : World} {v : Value} (h : Calls P f args w fun e w' => e = .returned v ∧ w = w') : Calls P f args w fun e w' => e = .returned v ∧ Below w.heap.size w w' :=
  h.mono fun _ w' ⟨he, hb⟩ => ⟨he, by rw [← hb]; exact Below.refl _ _⟩
end Go.Proofs.Ytibpajlfcknegaa.kit
namespace Go.Proofs.Ytibpajlfcknegaa.kit
open Go.ChangeShapes Go.WideShapes Go.ChangeAt Go.RowKit
set_option linter.unusedVariables false
set_option maxRecDepth 100000

theorem big_yes (A : Option Addr) (len cap : Nat) (w : World) (h : 1048576 < len) (h2 : len ≤ 9223372036854775807) : Calls Try.prog 5 #[.slice A len cap] w fun e w' => e = .returned (.bool true) ∧ w = w' := by
  have hd : decide ((1048576 : Int) < (len : Int)) = true := by simp; omega
  have HD := Lib.hid hd
  clear hd
  go_enter Try.func5, Try.ntmps5
  go_wp2_with fail
  go_ret
  exact ⟨by rw [← HD.out]; rfl, rfl⟩
theorem big_no (A : Option Addr) (len cap : Nat) (w : World) (h : ¬ 1048576 < len) : Calls Try.prog 5 #[.slice A len cap] w fun e w' => e = .returned (.bool false) ∧ w = w' := by
  have hd : decide ((1048576 : Int) < (len : Int)) = false := by simp; omega
  have HD := Lib.hid hd
  clear hd
  go_enter Try.func5, Try.ntmps5
  go_wp2_with fail
  go_ret
  exact ⟨by rw [← HD.out]; rfl, rfl⟩
end Go.Proofs.Ytibpajlfcknegaa.kit
namespace Go.Proofs.Ytibpajlfcknegaa.fnMachine
open Go.ChangeShapes Go.WideShapes Go.ChangeAt Go.RowKit
open Go.ChangeMaps (open_string shut_string)
open kit
set_option linter.unusedVariables false
set_option linter.unusedSimpArgs false

theorem app_no {L1 : List Int} {L2 : List Sess} {c s k o d v : Int} (h : appB L1 L2 c s k o d v = false) : appO L1 L2 c s k o d v = L1 ∧ appS L1 L2 c s k o d v = L2 := by
  unfold appB at h
  rw [Bool.or_eq_false_iff] at h
  unfold appO appS
  rw [h.1]
  exact ⟨rfl, rfl⟩
theorem okOp_object {c s k o d v : Int} (h : okOp c s k o d v = true) : okC o = true := by
  unfold okOp at h
  simp only [Bool.and_eq_true] at h
  exact h.1.1.2
set_option maxRecDepth 100000 in
set_option maxHeartbeats 16000000 in
theorem walk (a0 : Option Addr) (len0 cap0 : Nat) (z0 : List Int) (w : World) (w0 : IsRow .u8 w a0 len0 cap0 z0) :
    Calls Try.prog 3 #[.slice a0 len0 cap0] w fun e w' => e = .returned (.bool true) ∧ Below w.heap.size w w' := by
  have hl : len0 ≤ 9223372036854775807 := by
    rcases w0 with ⟨_, h, _⟩ | ⟨_, _, h1, h2, _⟩
    · omega
    · unfold maxLen at h2; omega
  have hcode := Lib.hid (code_of_row w0)
  clear w0
  by_cases hbig : 1048576 < len0
  · have CB := Lib.hid (big_yes a0 len0 cap0 w hbig hl)
    clear hbig
    go_enter Try.func3, Try.ntmps3
    go_wp2_with fail
    refine (CB.out).mono ?_
    rintro e w1 ⟨rfl, rfl⟩
    go_wp2_with fail
    go_ret
    exact ⟨rfl, Below.refl _ _⟩
  · have CB := Lib.hid (big_no a0 len0 cap0 w hbig)
    clear hbig
    have C1 := Lib.hid (drawApplyOp a0 len0 cap0 z0 w hcode.out)
    go_enter Try.func3, Try.ntmps3
    go_wp2_with fail
    refine (CB.out).mono ?_
    rintro e w1 ⟨rfl, rfl⟩
    go_wp2_with fail
    refine (C1.out).mono ?_
    rintro e w1 ⟨u1, u2, L, M, c, s, k, o, d, v, rfl, hl1, hl2, ho1, ho2, hb1⟩
    obtain ⟨a1, c1, rfl⟩ := ho1.shape
    obtain ⟨a2, c2, rfl⟩ := ho2.shape
    -- the boxes of the machine and of the operation
    obtain ⟨p, hp⟩ : ∃ q, q = w1.heap.size := ⟨_, rfl⟩
    obtain ⟨W1, hW1⟩ : ∃ q, q = w1.alloc (.cells #[.slice a1 L.length c1, .slice a2 M.length c2] 27) := ⟨_, rfl⟩
    obtain ⟨W, hW⟩ : ∃ q, q = W1.alloc (.cells #[.int .i64 c, .int .i64 s, .int .i64 k, .int .i64 o, .int .i64 d, .int .i64 v] 29) := ⟨_, rfl⟩
    have hbM : Below w1.heap.size w1 W1 := by rw [hW1]; exact (Below.refl _ _).alloc (Nat.le_refl _) _
    have hbO : Below W1.heap.size W1 W := by rw [hW]; exact (Below.refl _ _).alloc (Nat.le_refl _) _
    have hp1 : W1.heap.size = p + 1 := by rw [hW1, hp, World.size_alloc]
    have XM := Lib.hid (show BoxC W p 27 #[.slice a1 L.length c1, .slice a2 M.length c2] from (show BoxC W1 p 27 _ by rw [hW1, hp]; exact BoxC.new _ _ _).later hbO)
    have XO := Lib.hid (show BoxC W (p + 1) 29 #[.int .i64 c, .int .i64 s, .int .i64 k, .int .i64 o, .int .i64 d, .int .i64 v] by rw [hW, ← hp1]; exact BoxC.new _ _ _)
    have HO1 := Lib.hid ((ho1.later hbM).later hbO)
    have HO2 := Lib.hid ((ho2.later hbM).later hbO)
    have HB := Lib.hid ((hb1.trans (hbM.mono hb1.size)).trans (hbO.mono (Nat.le_trans hb1.size hbM.size)))
    have HW := Lib.hid (show (w1.alloc (.cells #[.slice a1 L.length c1, .slice a2 M.length c2] 27)).alloc (.cells #[.int .i64 c, .int .i64 s, .int .i64 k, .int .i64 o, .int .i64 d, .int .i64 v] 29) = W by rw [hW, hW1])
    have HP := Lib.hid hp
    -- what both ApplyOps answer
    have hO3 : (appO L M c s k o d v).length ≤ 3 := by rw [appO_three]; exact hl1
    have hS7 : (appS L M c s k o d v).length ≤ 7 := by have := appS_more L M c s k o d v; omega
    have HNO := Lib.hid (fun h => app_no (L1 := L) (L2 := M) (c := c) (s := s) (k := k) (o := o) (d := d) (v := v) h)
    have HYES := Lib.hid (fun h => app_known (L1 := L) (L2 := M) (c := c) (s := s) (k := k) (o := o) (d := d) (v := v) h)
    have HAG := Lib.hid (fun h => app_again (L1 := L) (L2 := M) (c := c) (s := s) (k := k) (o := o) (d := d) (v := v) h _ _ rfl rfl)
    have j1 := fun W (h1 : ObjV w.heap.size W (.slice a1 L.length c1) L) (h2 : OwnS w.heap.size W (.slice a2 M.length c2) M) => implApplyOpV _ _ _ _ L M c s k o d v W (by omega) (by omega) h1 h2
    have j2 := fun W (h1 : ObjV w.heap.size W (.slice a1 L.length c1) L) (h2 : OwnS w.heap.size W (.slice a2 M.length c2) M) => specApplyOpV _ _ _ _ L M c s k o d v W (by omega) (by omega) h1 h2
    have j3 := fun (b1 b2 : Nat) (v1 v2 : Value) W (h1 : OwnI b1 W v1 (appO L M c s k o d v)) (h2 : OwnS b2 W v2 (appS L M c s k o d v)) => implApplyOp b1 b2 v1 v2 (appO L M c s k o d v) (appS L M c s k o d v) c s k o d v W (by omega) (by omega) h1 h2
    unfold opV at j1 j2 j3
    generalize appD L M c s k o d v = D at *
    generalize appV L M c s k o d v = V at *
    generalize appB L M c s k o d v = B at *
    generalize appO L M c s k o d v = O at *
    generalize appS L M c s k o d v = S at *
    have J1 := Lib.hid j1
    have J2 := Lib.hid j2
    have J3 := Lib.hid j3
    clear j1 j2 j3 ho1 ho2 hb1 hbM hbO hp1 hW hW1 C1 CB hp
    have m0 := XM.out.c 0 rfl
    have m1 := XM.out.c 1 rfl
    have o0 := XO.out.c 0 rfl
    have o1 := XO.out.c 1 rfl
    have o2 := XO.out.c 2 rfl
    have o3 := XO.out.c 3 rfl
    have o4 := XO.out.c 4 rfl
    have o5 := XO.out.c 5 rfl
    go_upto_region 4 with (fail)
    rw [HW.out, ← HP.out]
    clear HW HP
    go_wp2_with fail
    refine (J1.out _ HO1.out HO2.out).mono ?_
    rintro e w2 ⟨v1, v2, rfl, hx1, hx2, hbk⟩
    obtain ⟨xa, xc, rfl⟩ := hx1.shape
    obtain ⟨ya, yc, rfl⟩ := hx2.shape
    have HX1 := Lib.hid hx1
    have HX2 := Lib.hid hx2
    replace XM := Lib.hid (XM.out.later hbk)
    replace XO := Lib.hid (XO.out.later hbk)
    replace HO1 := Lib.hid (HO1.out.later hbk)
    replace HO2 := Lib.hid (HO2.out.later hbk)
    replace HB := Lib.hid (HB.out.trans (hbk.mono HB.out.size))
    clear hx1 hx2 hbk J1
    -- the boxes of x and r
    obtain ⟨px, hp⟩ : ∃ q, q = w2.heap.size := ⟨_, rfl⟩
    obtain ⟨W1, hW1⟩ : ∃ q, q = w2.alloc (.cells #[.slice xa O.length xc, .slice ya S.length yc] 27) := ⟨_, rfl⟩
    obtain ⟨w3, hW⟩ : ∃ q, q = W1.alloc (.cells #[.bool D, .int .i64 V] 33) := ⟨_, rfl⟩
    have hbM : Below w2.heap.size w2 W1 := by rw [hW1]; exact (Below.refl _ _).alloc (Nat.le_refl _) _
    have hbO : Below W1.heap.size W1 w3 := by rw [hW]; exact (Below.refl _ _).alloc (Nat.le_refl _) _
    have hbk : Below w2.heap.size w2 w3 := hbM.trans (hbO.mono hbM.size)
    have hp1 : W1.heap.size = px + 1 := by rw [hW1, hp, World.size_alloc]
    have XA := Lib.hid (show BoxC w3 px 27 #[.slice xa O.length xc, .slice ya S.length yc] from (show BoxC W1 px 27 _ by rw [hW1, hp]; exact BoxC.new _ _ _).later hbO)
    have XR := Lib.hid (show BoxC w3 (px + 1) 33 #[.bool D, .int .i64 V] by rw [hW, ← hp1]; exact BoxC.new _ _ _)
    have HW := Lib.hid (show (w2.alloc (.cells #[.slice xa O.length xc, .slice ya S.length yc] 27)).alloc (.cells #[.bool D, .int .i64 V] 33) = w3 by rw [hW, hW1])
    have HP := Lib.hid hp
    clear hp hW1 hW hbM hbO hp1
    replace XM := Lib.hid (XM.out.later hbk)
    replace XO := Lib.hid (XO.out.later hbk)
    replace HO1 := Lib.hid (HO1.out.later hbk)
    replace HO2 := Lib.hid (HO2.out.later hbk)
    replace HB := Lib.hid (HB.out.trans (hbk.mono HB.out.size))
    replace HX1 := Lib.hid (HX1.out.later hbk)
    replace HX2 := Lib.hid (HX2.out.later hbk)
    clear hbk
    clear m0 m1 o0 o1 o2 o3 o4 o5
    have m0 := XM.out.c 0 rfl
    have m1 := XM.out.c 1 rfl
    have o0 := XO.out.c 0 rfl
    have o1 := XO.out.c 1 rfl
    have o2 := XO.out.c 2 rfl
    have o3 := XO.out.c 3 rfl
    have o4 := XO.out.c 4 rfl
    have o5 := XO.out.c 5 rfl
    go_upto_region 5 with (fail)
    rw [HW.out, ← HP.out]
    clear HW HP
    go_wp2_with fail
    refine (J2.out _ HO1.out HO2.out).mono ?_
    rintro e w4 ⟨v3, v4, rfl, hy1, hy2, hbk⟩
    obtain ⟨za, zc, rfl⟩ := hy1.shape
    obtain ⟨ta, tc, rfl⟩ := hy2.shape
    have HY1 := Lib.hid hy1
    have HY2 := Lib.hid hy2
    replace XM := Lib.hid (XM.out.later hbk)
    replace XO := Lib.hid (XO.out.later hbk)
    replace HO1 := Lib.hid (HO1.out.later hbk)
    replace HO2 := Lib.hid (HO2.out.later hbk)
    replace HB := Lib.hid (HB.out.trans (hbk.mono HB.out.size))
    replace HX1 := Lib.hid (HX1.out.later hbk)
    replace HX2 := Lib.hid (HX2.out.later hbk)
    replace XA := Lib.hid (XA.out.later hbk)
    replace XR := Lib.hid (XR.out.later hbk)
    clear hy1 hy2 hbk J2
    obtain ⟨py, hp⟩ : ∃ q, q = w4.heap.size := ⟨_, rfl⟩
    obtain ⟨W1, hW1⟩ : ∃ q, q = w4.alloc (.cells #[.slice za O.length zc, .slice ta S.length tc] 27) := ⟨_, rfl⟩
    obtain ⟨w5, hW⟩ : ∃ q, q = W1.alloc (.cells #[.bool D, .int .i64 V] 33) := ⟨_, rfl⟩
    have hbM : Below w4.heap.size w4 W1 := by rw [hW1]; exact (Below.refl _ _).alloc (Nat.le_refl _) _
    have hbO : Below W1.heap.size W1 w5 := by rw [hW]; exact (Below.refl _ _).alloc (Nat.le_refl _) _
    have hbk : Below w4.heap.size w4 w5 := hbM.trans (hbO.mono hbM.size)
    have hp1 : W1.heap.size = py + 1 := by rw [hW1, hp, World.size_alloc]
    have YA := Lib.hid (show BoxC w5 py 27 #[.slice za O.length zc, .slice ta S.length tc] from (show BoxC W1 py 27 _ by rw [hW1, hp]; exact BoxC.new _ _ _).later hbO)
    have YR := Lib.hid (show BoxC w5 (py + 1) 33 #[.bool D, .int .i64 V] by rw [hW, ← hp1]; exact BoxC.new _ _ _)
    have HW := Lib.hid (show (w4.alloc (.cells #[.slice za O.length zc, .slice ta S.length tc] 27)).alloc (.cells #[.bool D, .int .i64 V] 33) = w5 by rw [hW, hW1])
    have HP := Lib.hid hp
    clear hp hW1 hW hbM hbO hp1
    replace XM := Lib.hid (XM.out.later hbk)
    replace XO := Lib.hid (XO.out.later hbk)
    replace HO1 := Lib.hid (HO1.out.later hbk)
    replace HO2 := Lib.hid (HO2.out.later hbk)
    replace HB := Lib.hid (HB.out.trans (hbk.mono HB.out.size))
    replace HX1 := Lib.hid (HX1.out.later hbk)
    replace HX2 := Lib.hid (HX2.out.later hbk)
    replace XA := Lib.hid (XA.out.later hbk)
    replace XR := Lib.hid (XR.out.later hbk)
    replace HY1 := Lib.hid (HY1.out.later hbk)
    replace HY2 := Lib.hid (HY2.out.later hbk)
    clear hbk
    clear m0 m1 o0 o1 o2 o3 o4 o5
    go_upto_region 6 with (fail)
    rw [HW.out, ← HP.out]
    clear HW HP
    -- region 6: what both say is the same
    have j1 := fun (q : LaterOf w5) => implEqualMachines _ _ _ _ O S _ _ _ _ O S q.W (by omega) (by omega) (HX1.out.later q.h) (HX2.out.later q.h) (by omega) (by omega) (HY1.out.later q.h) (HY2.out.later q.h)
    have j2 := fun (q : LaterOf w5) => implIsValidMachineV _ _ _ _ L M q.W (by omega) (by omega) (HO1.out.later q.h) (HO2.out.later q.h)
    have j3 := fun (q : LaterOf w5) => specIsValidMachineV _ _ _ _ L M q.W (by omega) (by omega) (HO1.out.later q.h) (HO2.out.later q.h)
    simp only [and_self, decide_true] at j1
    generalize decide (MOk L M) = mo at *
    have K1 : ∀ q : LaterOf w5, Hid _ := fun q => Lib.hid (j1 q)
    have K2 : ∀ q : LaterOf w5, Hid _ := fun q => Lib.hid (j2 q)
    have K3 : ∀ q : LaterOf w5, Hid _ := fun q => Lib.hid (j3 q)
    have n0 := LaterOf.cell (a := ⟨p, 0, none⟩) XM.out.lt (XM.out.c 0 rfl)
    have n1 := LaterOf.cell (a := ⟨p, 1, none⟩) XM.out.lt (XM.out.c 1 rfl)
    have n2 := LaterOf.cell (a := ⟨px, 0, none⟩) XA.out.lt (XA.out.c 0 rfl)
    have n3 := LaterOf.cell (a := ⟨px, 1, none⟩) XA.out.lt (XA.out.c 1 rfl)
    have n4 := LaterOf.cell (a := ⟨py, 0, none⟩) YA.out.lt (YA.out.c 0 rfl)
    have n5 := LaterOf.cell (a := ⟨py, 1, none⟩) YA.out.lt (YA.out.c 1 rfl)
    have n6 := LaterOf.cell (a := ⟨px + 1, 0, none⟩) XR.out.lt (XR.out.c 0 rfl)
    have n7 := LaterOf.cell (a := ⟨px + 1, 1, none⟩) XR.out.lt (XR.out.c 1 rfl)
    have n8 := LaterOf.cell (a := ⟨py + 1, 0, none⟩) YR.out.lt (YR.out.c 0 rfl)
    have n9 := LaterOf.cell (a := ⟨py + 1, 1, none⟩) YR.out.lt (YR.out.c 1 rfl)
    have t1 : (B != B) = false := by simp
    have t2 : (mo != mo) = false := by simp
    have t3 : (D == D) = true := by simp
    have t4 : (V == V) = true := by simp
    clear j1 j2 j3
    refine wp_region_later (by kernel_rfl) (by kernel_rfl) ?_
    repeat (go_big_quiet_step (first | (with_reducible exact Calls.later_of (K1 _).out) | (with_reducible exact Calls.later_of (K2 _).out) | (with_reducible exact Calls.later_of (K3 _).out)))
    refine wpQuiet_nil ?_
    intro w6 hw'
    obtain ⟨⟨wz, hbk⟩, hw''⟩ := hw'
    subst hw''
    replace XM := Lib.hid (XM.out.later hbk)
    replace XO := Lib.hid (XO.out.later hbk)
    replace HO1 := Lib.hid (HO1.out.later hbk)
    replace HO2 := Lib.hid (HO2.out.later hbk)
    replace HB := Lib.hid (HB.out.trans (hbk.mono HB.out.size))
    replace HX1 := Lib.hid (HX1.out.later hbk)
    replace HX2 := Lib.hid (HX2.out.later hbk)
    replace XA := Lib.hid (XA.out.later hbk)
    replace XR := Lib.hid (XR.out.later hbk)
    replace HY1 := Lib.hid (HY1.out.later hbk)
    replace HY2 := Lib.hid (HY2.out.later hbk)
    replace YA := Lib.hid (YA.out.later hbk)
    clear hbk K1 K2 K3 n0 n1 n2 n3 n4 n5 n6 n7 n8 n9 t1 t2 t3 t4 YR
    cases B with
    | false =>
      obtain ⟨rfl, rfl⟩ := HNO.out rfl
      have j := implEqualMachinesV _ _ _ _ O S _ _ _ _ O S w6 (by omega) (by omega) HX1.out HX2.out (by omega) (by omega) HO1.out HO2.out
      simp only [and_self, decide_true] at j
      have J := Lib.hid j
      have m0 := XM.out.c 0 rfl
      have m1 := XM.out.c 1 rfl
      have x0 := XA.out.c 0 rfl
      have x1 := XA.out.c 1 rfl
      clear j J3 HNO HYES HAG
      go_wp2_with fail
      refine (J.out).mono ?_
      rintro e w7 ⟨rfl, hbk⟩
      go_wp2_with fail
      go_ret
      exact ⟨rfl, HB.out.trans (hbk.mono HB.out.size)⟩
    | true =>
      obtain ⟨hok, hmk, hhs, hse⟩ := HYES.out rfl
      obtain ⟨g1, g2, g3, g4, g5⟩ := HAG.out rfl
      have hoo := okOp_object hok
      have j := J3.out _ _ _ _ w6 HX1.out HX2.out
      rw [g1, g2, g3, g4, g5] at j
      have J := Lib.hid j
      have HMK := Lib.hid hmk
      have HHS := Lib.hid hhs
      have HSE := Lib.hid hse
      have HOO := Lib.hid hoo
      clear g1 g2 g3 g4 g5 hok hmk hhs hse hoo j J3 HNO HYES HAG
      have m0 := XM.out.c 0 rfl
      have m1 := XM.out.c 1 rfl
      have o0 := XO.out.c 0 rfl
      have o1 := XO.out.c 1 rfl
      have o2 := XO.out.c 2 rfl
      have o3 := XO.out.c 3 rfl
      have o4 := XO.out.c 4 rfl
      have o5 := XO.out.c 5 rfl
      have x0 := XA.out.c 0 rfl
      have x1 := XA.out.c 1 rfl
      go_wp2_with fail
      refine (J.out).mono ?_
      rintro e w7 ⟨v5, v6, rfl, hz1, hz2, hbk⟩
      obtain ⟨ra, rc, rfl⟩ := hz1.shape
      obtain ⟨sa, sc, rfl⟩ := hz2.shape
      have HZ1 := Lib.hid hz1
      have HZ2 := Lib.hid hz2
      replace XM := Lib.hid (XM.out.later hbk)
      replace XO := Lib.hid (XO.out.later hbk)
      replace HO1 := Lib.hid (HO1.out.later hbk)
      replace HO2 := Lib.hid (HO2.out.later hbk)
      replace HB := Lib.hid (HB.out.trans (hbk.mono HB.out.size))
      replace HX1 := Lib.hid (HX1.out.later hbk)
      replace HX2 := Lib.hid (HX2.out.later hbk)
      replace XA := Lib.hid (XA.out.later hbk)
      replace XR := Lib.hid (XR.out.later hbk)
      replace HY1 := Lib.hid (HY1.out.later hbk)
      replace HY2 := Lib.hid (HY2.out.later hbk)
      replace YA := Lib.hid (YA.out.later hbk)
      clear hz1 hz2 hbk J x0 x1
      obtain ⟨pz, hp⟩ : ∃ q, q = w7.heap.size := ⟨_, rfl⟩
      obtain ⟨W1, hW1⟩ : ∃ q, q = w7.alloc (.cells #[.slice ra O.length rc, .slice sa S.length sc] 27) := ⟨_, rfl⟩
      obtain ⟨w8, hW⟩ : ∃ q, q = W1.alloc (.cells #[.bool D, .int .i64 V] 33) := ⟨_, rfl⟩
      have hbM : Below w7.heap.size w7 W1 := by rw [hW1]; exact (Below.refl _ _).alloc (Nat.le_refl _) _
      have hbO : Below W1.heap.size W1 w8 := by rw [hW]; exact (Below.refl _ _).alloc (Nat.le_refl _) _
      have hbk : Below w7.heap.size w7 w8 := hbM.trans (hbO.mono hbM.size)
      have hp1 : W1.heap.size = pz + 1 := by rw [hW1, hp, World.size_alloc]
      have ZA := Lib.hid (show BoxC w8 pz 27 #[.slice ra O.length rc, .slice sa S.length sc] from (show BoxC W1 pz 27 _ by rw [hW1, hp]; exact BoxC.new _ _ _).later hbO)
      have ZR := Lib.hid (show BoxC w8 (pz + 1) 33 #[.bool D, .int .i64 V] by rw [hW, ← hp1]; exact BoxC.new _ _ _)
      have HW := Lib.hid (show (w7.alloc (.cells #[.slice ra O.length rc, .slice sa S.length sc] 27)).alloc (.cells #[.bool D, .int .i64 V] 33) = w8 by rw [hW, hW1])
      have HP := Lib.hid hp
      clear hp hW1 hW hbM hbO hp1
      replace XM := Lib.hid (XM.out.later hbk)
      replace XO := Lib.hid (XO.out.later hbk)
      replace HO1 := Lib.hid (HO1.out.later hbk)
      replace HO2 := Lib.hid (HO2.out.later hbk)
      replace HB := Lib.hid (HB.out.trans (hbk.mono HB.out.size))
      replace HX1 := Lib.hid (HX1.out.later hbk)
      replace HX2 := Lib.hid (HX2.out.later hbk)
      replace XA := Lib.hid (XA.out.later hbk)
      replace XR := Lib.hid (XR.out.later hbk)
      replace HY1 := Lib.hid (HY1.out.later hbk)
      replace HY2 := Lib.hid (HY2.out.later hbk)
      replace YA := Lib.hid (YA.out.later hbk)
      replace HZ1 := Lib.hid (HZ1.out.later hbk)
      replace HZ2 := Lib.hid (HZ2.out.later hbk)
      clear hbk
      clear m0 m1 o0 o1 o2 o3 o4 o5
      go_upto_region 11 with (fail)
      rw [HW.out, ← HP.out]
      clear HW HP
      -- the session of the client
      have m0 := XM.out.c 0 rfl
      have m1 := XM.out.c 1 rfl
      have o0 := XO.out.c 0 rfl
      have o1 := XO.out.c 1 rfl
      have o2 := XO.out.c 2 rfl
      have o3 := XO.out.c 3 rfl
      have o4 := XO.out.c 4 rfl
      have o5 := XO.out.c 5 rfl
      have x0 := XA.out.c 0 rfl
      have x1 := XA.out.c 1 rfl
      have j := implSessionOf _ _ _ _ O S c w8 (by omega) (by omega) HX1.out HX2.out
      rw [HHS.out, HSE.out] at j
      unfold sessV at j
      simp only at j
      have J := Lib.hid j
      clear j
      go_wp2_with fail
      refine (J.out).mono ?_
      rintro e w9 ⟨rfl, hbk⟩
      replace XM := Lib.hid (XM.out.later hbk)
      replace XO := Lib.hid (XO.out.later hbk)
      replace HO1 := Lib.hid (HO1.out.later hbk)
      replace HO2 := Lib.hid (HO2.out.later hbk)
      replace HB := Lib.hid (HB.out.trans (hbk.mono HB.out.size))
      replace HX1 := Lib.hid (HX1.out.later hbk)
      replace HX2 := Lib.hid (HX2.out.later hbk)
      replace XA := Lib.hid (XA.out.later hbk)
      replace XR := Lib.hid (XR.out.later hbk)
      replace HY1 := Lib.hid (HY1.out.later hbk)
      replace HY2 := Lib.hid (HY2.out.later hbk)
      replace YA := Lib.hid (YA.out.later hbk)
      replace HZ1 := Lib.hid (HZ1.out.later hbk)
      replace HZ2 := Lib.hid (HZ2.out.later hbk)
      replace ZA := Lib.hid (ZA.out.later hbk)
      replace ZR := Lib.hid (ZR.out.later hbk)
      clear hbk J x0 x1
      obtain ⟨ps, hp⟩ : ∃ q, q = w9.heap.size := ⟨_, rfl⟩
      obtain ⟨w10, hW⟩ : ∃ q, q = w9.alloc (.cells #[.int .i64 c, .int .i64 s, .bool D, .int .i64 V] 39) := ⟨_, rfl⟩
      have hbk : Below w9.heap.size w9 w10 := by rw [hW]; exact (Below.refl _ _).alloc (Nat.le_refl _) _
      have XS := Lib.hid (show BoxC w10 ps 39 #[.int .i64 c, .int .i64 s, .bool D, .int .i64 V] by rw [hW, hp]; exact BoxC.new _ _ _)
      have HW := Lib.hid hW
      have HP := Lib.hid hp
      replace XM := Lib.hid (XM.out.later hbk)
      replace XO := Lib.hid (XO.out.later hbk)
      replace HO1 := Lib.hid (HO1.out.later hbk)
      replace HO2 := Lib.hid (HO2.out.later hbk)
      replace HB := Lib.hid (HB.out.trans (hbk.mono HB.out.size))
      replace HX1 := Lib.hid (HX1.out.later hbk)
      replace HX2 := Lib.hid (HX2.out.later hbk)
      replace XA := Lib.hid (XA.out.later hbk)
      replace XR := Lib.hid (XR.out.later hbk)
      replace HY1 := Lib.hid (HY1.out.later hbk)
      replace HY2 := Lib.hid (HY2.out.later hbk)
      replace YA := Lib.hid (YA.out.later hbk)
      replace HZ1 := Lib.hid (HZ1.out.later hbk)
      replace HZ2 := Lib.hid (HZ2.out.later hbk)
      replace ZA := Lib.hid (ZA.out.later hbk)
      replace ZR := Lib.hid (ZR.out.later hbk)
      clear hbk hW hp
      clear m0 m1 o0 o1 o2 o3 o4 o5
      go_upto_region 12 with (fail)
      rw [← HW.out, ← HP.out]
      clear HW HP
      -- the object
      have m0 := XM.out.c 0 rfl
      have m1 := XM.out.c 1 rfl
      have o0 := XO.out.c 0 rfl
      have o1 := XO.out.c 1 rfl
      have o2 := XO.out.c 2 rfl
      have o3 := XO.out.c 3 rfl
      have o4 := XO.out.c 4 rfl
      have o5 := XO.out.c 5 rfl
      have x0 := XA.out.c 0 rfl
      have x1 := XA.out.c 1 rfl
      have ht := readOk_true (decide_eq_true HMK.out) HOO.out
      have j := implReadObject _ _ _ _ O S o w10 (by omega) (by omega) HX1.out HX2.out
      rw [ht] at j
      have J := Lib.hid j
      have js := fun W h1 h2 => specReadObject _ _ _ _ O S o W (by omega) (by omega) (show OwnI w3.heap.size W (.slice za O.length zc) O from h1) (show OwnS w3.heap.size W (.slice ta S.length tc) S from h2)
      simp only [ht] at js
      have JS := Lib.hid js
      clear j js ht
      go_wp2_with fail
      refine (J.out).mono ?_
      rintro e w11 ⟨rfl, hbk⟩
      replace XM := Lib.hid (XM.out.later hbk)
      replace XO := Lib.hid (XO.out.later hbk)
      replace HO1 := Lib.hid (HO1.out.later hbk)
      replace HO2 := Lib.hid (HO2.out.later hbk)
      replace HB := Lib.hid (HB.out.trans (hbk.mono HB.out.size))
      replace HX1 := Lib.hid (HX1.out.later hbk)
      replace HX2 := Lib.hid (HX2.out.later hbk)
      replace XA := Lib.hid (XA.out.later hbk)
      replace XR := Lib.hid (XR.out.later hbk)
      replace HY1 := Lib.hid (HY1.out.later hbk)
      replace HY2 := Lib.hid (HY2.out.later hbk)
      replace YA := Lib.hid (YA.out.later hbk)
      replace HZ1 := Lib.hid (HZ1.out.later hbk)
      replace HZ2 := Lib.hid (HZ2.out.later hbk)
      replace ZA := Lib.hid (ZA.out.later hbk)
      replace ZR := Lib.hid (ZR.out.later hbk)
      replace XS := Lib.hid (XS.out.later hbk)
      clear hbk J x0 x1
      clear m0 m1 o0 o1 o2 o3 o4 o5
      have m0 := XM.out.c 0 rfl
      have m1 := XM.out.c 1 rfl
      have o0 := XO.out.c 0 rfl
      have o1 := XO.out.c 1 rfl
      have o2 := XO.out.c 2 rfl
      have o3 := XO.out.c 3 rfl
      have o4 := XO.out.c 4 rfl
      have o5 := XO.out.c 5 rfl
      have y0 := YA.out.c 0 rfl
      have y1 := YA.out.c 1 rfl
      go_wp2_with fail
      refine (JS.out _ HY1.out HY2.out).mono ?_
      rintro e w12 ⟨rfl, hbk⟩
      replace XM := Lib.hid (XM.out.later hbk)
      replace XO := Lib.hid (XO.out.later hbk)
      replace HO1 := Lib.hid (HO1.out.later hbk)
      replace HO2 := Lib.hid (HO2.out.later hbk)
      replace HB := Lib.hid (HB.out.trans (hbk.mono HB.out.size))
      replace HX1 := Lib.hid (HX1.out.later hbk)
      replace HX2 := Lib.hid (HX2.out.later hbk)
      replace XA := Lib.hid (XA.out.later hbk)
      replace XR := Lib.hid (XR.out.later hbk)
      replace HY1 := Lib.hid (HY1.out.later hbk)
      replace HY2 := Lib.hid (HY2.out.later hbk)
      replace YA := Lib.hid (YA.out.later hbk)
      replace HZ1 := Lib.hid (HZ1.out.later hbk)
      replace HZ2 := Lib.hid (HZ2.out.later hbk)
      replace ZA := Lib.hid (ZA.out.later hbk)
      replace ZR := Lib.hid (ZR.out.later hbk)
      replace XS := Lib.hid (XS.out.later hbk)
      clear hbk JS y0 y1
      clear m0 m1 o0 o1 o2 o3 o4 o5
      -- region 14: the answer
      have j1 := implEqualMachines _ _ _ _ O S _ _ _ _ O S w12 (by omega) (by omega) HZ1.out HZ2.out (by omega) (by omega) HX1.out HX2.out
      simp only [and_self, decide_true] at j1
      have K1 := Lib.hid j1
      generalize readO O S o = rv at *
      have n0 := XA.out.c 0 rfl
      have n1 := XA.out.c 1 rfl
      have n2 := ZA.out.c 0 rfl
      have n3 := ZA.out.c 1 rfl
      have n4 := XR.out.c 0 rfl
      have n5 := XR.out.c 1 rfl
      have n6 := ZR.out.c 0 rfl
      have n7 := ZR.out.c 1 rfl
      have t3 : (D == D) = true := by simp
      have t4 : (V == V) = true := by simp
      have t5 : (s == s) = true := by simp
      have t6 : (rv == rv) = true := by simp
      clear j1
      go_wp2_with fail
      refine (K1.out).mono ?_
      rintro e w13 ⟨rfl, hbk⟩
      replace XM := Lib.hid (XM.out.later hbk)
      replace XO := Lib.hid (XO.out.later hbk)
      replace HO1 := Lib.hid (HO1.out.later hbk)
      replace HO2 := Lib.hid (HO2.out.later hbk)
      replace HB := Lib.hid (HB.out.trans (hbk.mono HB.out.size))
      replace HX1 := Lib.hid (HX1.out.later hbk)
      replace HX2 := Lib.hid (HX2.out.later hbk)
      replace XA := Lib.hid (XA.out.later hbk)
      replace XR := Lib.hid (XR.out.later hbk)
      replace XS := Lib.hid (XS.out.later hbk)
      clear hbk K1 n0 n1 n2 n3 n4 n5 n6 n7
      have j2 := implIsValidMachine _ _ _ _ O S w13 (by omega) (by omega) HX1.out HX2.out
      rw [decide_eq_true HMK.out] at j2
      have K2 := Lib.hid j2
      have n0 := XA.out.c 0 rfl
      have n1 := XA.out.c 1 rfl
      have n4 := XR.out.c 0 rfl
      have n5 := XR.out.c 1 rfl
      have n8 := XS.out.c 0 rfl
      have n9 := XS.out.c 1 rfl
      have n10 := XS.out.c 2 rfl
      have n11 := XS.out.c 3 rfl
      have n12 := XO.out.c 1 rfl
      clear j2
      go_wp2_with fail
      refine (K2.out).mono ?_
      rintro e w14 ⟨rfl, hbk⟩
      replace HB := Lib.hid (HB.out.trans (hbk.mono HB.out.size))
      go_wp2_with fail
      go_ret
      exact ⟨rfl, HB.out⟩
end Go.Proofs.Ytibpajlfcknegaa.fnMachine
namespace Go.Proofs.Ytibpajlfcknegaa.fnMachine
open Go.ChangeShapes Go.WideShapes Go.ChangeAt Go.RowKit
open Go.ChangeMaps (open_string shut_string)
open kit
set_option linter.unusedVariables false
set_option linter.unusedSimpArgs false

set_option maxRecDepth 100000 in
theorem lifted (os : Os) (started : os.Started) (H : Type) (enc : TypeId × Value → H) :
    ReturnsInHanded {} Try.checked os 3 .any (Rows.fnMachineSpec.pre6 enc Try.prog Try.f3 Rows.fnMachineRow.domain false) (Rows.fnMachineSpec.post enc Try.prog Try.f3 false true false false) := by
  refine returnsInHanded_of_change (C := Try.checked) kit.own started (by kernel_rfl) Try.func3
    (ChangeSpec.witness6 (enc := enc) (C := Try.checked) false ⟨#[], #[.slice none 0 0], []⟩ 8 (by kernel_rfl) (by kernel_rfl) (by kernel_rfl) (by kernel_rfl)) ?_
  intro W base args ds gs before hval0 hW hcnd _
  have hval : ∀ (j : Nat) t v, Try.f3.params[j]? = some t → args[j]? = some v → Value.okWide Try.prog W .any base t v := hval0
  have hW' := hW
  obtain ⟨p, q, hA0, hV, rfl, hfz, hnd⟩ := hW
  have hA : DataW.TrodAll enc Try.prog W 0 (fun _ => true) true Try.f3.params.toList args.toList ds p := hA0
  rw [Try.params3] at hA hval
  obtain ⟨v0, vs0, d0, ds0, p0, q0, hargs, rfl, rfl, h0, r0⟩ := trodAll_cons hA
  obtain ⟨rfl, rfl, rfl⟩ := trodAll_nil r0
  obtain rfl : args = #[v0] := by cases args; simp_all
  obtain ⟨rfl, rfl⟩ := trodVars_none hV
  obtain ⟨a0, len0, cap0, rfl⟩ := okWide_slice Try.underlying22 (hval 0 22 v0 rfl rfl)
  have k0 := h0
  have lt0 : ∀ x ∈ p0, x.block < W.heap.size := by obtain ⟨m, hm⟩ := k0; exact DataW.trod_lt m _ _ _ hm
  obtain ⟨z0, w0⟩ : ∃ zs, kit.IsRow .u8 W a0 len0 cap0 zs := by
    obtain ⟨fuel, hf⟩ := h0
    rcases open_ints Try.underlying22 Try.underlying5 (by kernel_rfl) hf with ⟨hcs, _⟩ | ⟨x, l, c, zs, hcs, _, hl, hm, hz, _, hcell, hwz⟩
    · simp [Value.cells] at hcs
      obtain ⟨rfl, rfl, rfl⟩ := hcs
      exact ⟨[], .inl ⟨rfl, rfl, rfl, rfl⟩⟩
    · simp [Value.cells] at hcs
      obtain ⟨rfl, rfl, rfl⟩ := hcs
      exact ⟨zs, .inr ⟨_, rfl, hl, hm, by simpa using hz, hcell, hwz⟩⟩
  clear hA0 hval0
  refine (walk a0 len0 cap0 z0 W w0).mono fun e W' ⟨he, bel⟩ => ?_
  subst he
  exact ⟨_, rfl, _, _, _, [], _, [], hW', trodAll_mk1 (shut_bool Try.underlying4 _), (trodAll_cons_mk (Below.trod kit.laidOut (by kernel_rfl) (of_decide_eq_true (by kernel_rfl)) k0 bel lt0) trodAll_mk0), rfl, bel.frame _, fun h => by cases h⟩

theorem proved : Rows.FnMachineSaid :=
  OpenClaim.holds_of_wide 3 Try.f3 rfl rfl rfl rfl rfl rfl rfl ⟨rfl, rfl, rfl, rfl, rfl⟩ rfl rfl rfl rfl rfl (by kernel_rfl) Try.func3 (by kernel_rfl)
    (of_decide_eq_true (by kernel_rfl)) (by unfold Func.isWrapper; first | (rw [if_pos (by decide +kernel)]; kernel_rfl) | (rw [if_neg (by decide +kernel)]; exact ⟨rfl, rfl⟩))
    (fun os started H enc _ => lifted os started H enc)
end Go.Proofs.Ytibpajlfcknegaa.fnMachine
