/-
  A region that Go may carry out in several orders, whose first m operations make memory (calls, boxes) and whose last ones wait for all of these: of each operation it is said once what lies in its slot behind it; whatever the order, the last ones find all of it.
-/
import Derived.Test.YtgjebjoaemeeoaaKit
import Derived.OrdersHeld
import Derived.RegionTactic
namespace Go.Proofs.Ytgjebjoaemeeoaa.kit
open Go.ChangeShapes Go.WideShapes Go.ChangeAt Go.RowKit
set_option linter.unusedVariables false
section
variable {P : Program} {ops : Array Oper} {Q : Exit → Act → World → Prop}
def lay : List Nat → (Nat → Value) → Nat → Act → Act
  | [], _, _, a => a
  | d :: ds, vs, i, a => lay ds vs (i + 1) (a.put (some d) (vs i))
def upd (vs : Nat → Value) (i : Nat) (v : Value) : Nat → Value := fun j => if j = i then v else vs j
theorem lay_put_out : ∀ (ds : List Nat) (vs : Nat → Value) (i : Nat) (a : Act) (d : Nat) (v : Value), d ∉ ds → (lay ds vs i a).put (some d) v = lay ds vs i (a.put (some d) v)
  | [], _, _, _, _, _, _ => rfl
  | e :: ds, vs, i, a, d, v, h => by
    have h1 : d ≠ e := fun x => h (by simp [x])
    have h2 : d ∉ ds := fun x => h (by simp [x])
    unfold lay
    rw [lay_put_out ds vs (i + 1) _ d v h2, Act.put_comm a (vs i) v (fun x hx hy => h1 (by cases hx; cases hy; rfl))]
theorem lay_congr : ∀ (ds : List Nat) (vs vs' : Nat → Value) (i : Nat) (a : Act), (∀ j, i ≤ j → vs j = vs' j) → lay ds vs i a = lay ds vs' i a
  | [], _, _, _, _, _ => rfl
  | e :: ds, vs, vs', i, a, h => by
    unfold lay
    rw [h i (Nat.le_refl _)]
    exact lay_congr ds vs vs' (i + 1) _ (fun j hj => h j (by omega))
theorem put_put (a : Act) (d : Nat) (v u : Value) : (a.put (some d) v).put (some d) u = a.put (some d) u := by
  unfold Act.put
  simp
theorem lay_put : ∀ (ds : List Nat) (vs : Nat → Value) (i : Nat) (a : Act) (k d : Nat) (v : Value), ds[k]? = some d → ds.Nodup → (lay ds vs i a).put (some d) v = lay ds (upd vs (i + k) v) i a
  | [], _, _, _, _, _, _, h, _ => by simp at h
  | e :: ds, vs, i, a, 0, d, v, h, hn => by
    obtain rfl : e = d := by simpa using h
    have hn' := List.nodup_cons.1 hn
    unfold lay
    rw [lay_put_out ds vs (i + 1) _ e v hn'.1, put_put]
    rw [show upd vs (i + 0) v i = v by simp [upd]]
    exact lay_congr ds _ _ (i + 1) _ (fun j hj => by unfold upd; rw [if_neg (by omega)])
  | e :: ds, vs, i, a, k + 1, d, v, h, hn => by
    have hn' := List.nodup_cons.1 hn
    unfold lay
    rw [lay_put ds vs (i + 1) _ k d v (by simpa using h) hn'.2]
    rw [show upd vs (i + (k + 1)) v i = vs i by unfold upd; rw [if_neg (by omega)], show i + 1 + k = i + (k + 1) by omega]
theorem put_self (a : Act) (d : Nat) : a.put (some d) (a.tmps.getD d undef) = a := by
  unfold Act.put
  have h : a.tmps.setIfInBounds d (a.tmps.getD d undef) = a.tmps := by
    apply Array.ext (by simp)
    intro i h1 h2
    by_cases e : d = i
    · subst e; simp [Array.getD, h2]
    · exact Array.getElem_setIfInBounds_ne h2 e
  simp only [h]
theorem lay_self : ∀ (ds : List Nat) (vs : Nat → Value) (i : Nat) (a : Act), (∀ k d, ds[k]? = some d → vs (i + k) = a.tmps.getD d undef) → lay ds vs i a = a
  | [], _, _, _, _ => rfl
  | e :: ds, vs, i, a, h => by
    unfold lay
    rw [show vs i = a.tmps.getD e undef from h 0 e rfl, put_self]
    exact lay_self ds vs (i + 1) a (fun k d hk => by rw [show i + 1 + k = i + (k + 1) by omega]; exact h (k + 1) d (by simpa using hk))
def undone : Nat → Array Bool → Nat
  | 0, _ => 0
  | m + 1, ls => undone m ls + (if ls.getD m false = true then 0 else 1)
theorem getD_both {ls : Array Bool} {i : Nat} (h : ls.getD i true = false) : ls.getD i false = false := by
  rcases Nat.lt_or_ge i ls.size with h' | h'
  · simp [h'] at h ⊢; exact h
  · simp [h'] at h
theorem getD_set_same {ls : Array Bool} {i : Nat} (h : ls.getD i true = false) : (ls.setIfInBounds i true).getD i false = true := by
  rcases Nat.lt_or_ge i ls.size with h' | h'
  · simp [h']
  · simp [h'] at h
theorem undone_ne : ∀ (m : Nat) (ls : Array Bool) (i : Nat), m ≤ i → undone m (ls.setIfInBounds i true) = undone m ls
  | 0, _, _, _ => rfl
  | m + 1, ls, i, h => by
    unfold undone
    rw [undone_ne m ls i (by omega), getD_set_ne false (show i ≠ m by omega)]
theorem undone_set : ∀ (m : Nat) (ls : Array Bool) (i : Nat), i < m → ls.getD i true = false → undone m (ls.setIfInBounds i true) + 1 = undone m ls
  | 0, _, _, h, _ => by omega
  | m + 1, ls, i, h, hi => by
    unfold undone
    by_cases e : i = m
    · subst e
      rw [undone_ne i ls i (Nat.le_refl _), if_pos (getD_set_same hi), if_neg (by rw [getD_both hi]; simp)]
    · have := undone_set m ls i (by omega) hi
      rw [getD_set_ne false e]
      omega
theorem undone_zero : ∀ (m : Nat) (ls : Array Bool), undone m ls = 0 → ∀ i, i < m → ls.getD i false = true
  | 0, _, _, _, h => by omega
  | m + 1, ls, h, i, hi => by
    unfold undone at h
    by_cases hl : ls.getD m false = true
    · by_cases e : i = m
      · rw [e]; exact hl
      · exact undone_zero m ls (by omega) i (by omega)
    · rw [if_neg hl] at h; omega
theorem undone_pos : ∀ (m : Nat) (ls : Array Bool), 0 < undone m ls → ∃ i, i < m ∧ ls.getD i false = false ∧ ∀ j, j < i → ls.getD j false = true
  | 0, _, h => by unfold undone at h; omega
  | m + 1, ls, h => by
    by_cases h0 : 0 < undone m ls
    · obtain ⟨i, h1, h2, h3⟩ := undone_pos m ls h0
      exact ⟨i, by omega, h2, h3⟩
    · unfold undone at h
      by_cases hl : ls.getD m false = true
      · rw [if_pos hl] at h; omega
      · exact ⟨m, by omega, by simpa using hl, fun j hj => undone_zero m ls (by omega) j hj⟩
theorem undone_all (n : Nat) : ∀ m, undone m (Array.replicate n false) = m
  | 0 => rfl
  | m + 1 => by
    unfold undone
    rw [undone_all n m, if_neg (by simp [Array.getElem?_replicate]; split <;> simp)]
def deps (ops : Array Oper) (i : Nat) : List Nat := match ops[i]? with
  | some o => (o.after.toList.filter (Region.binds .any)).map (·.on)
  | none => []
def okDeps (ops : Array Oper) (m : Nat) : Bool := (List.range m).all fun i => (deps ops i).all fun j => decide (j < i)
def okTail (ops : Array Oper) (m : Nat) (fl : List Nat) : Bool := (List.range ops.size).all fun j => decide (j < m) || (List.range m).all fun i => fl.contains i || (deps ops j).contains i
def coreTo (n m : Nat) (fl : List Nat) : Array Bool := ((List.range n).map fun i => decide (i < m) && !fl.contains i).toArray
def okFloat (ops : Array Oper) (m : Nat) (fl : List Nat) : Bool := Region.noSelect ops && fl.all fun f => decide (f < m) && Region.free .any ops (coreTo ops.size m fl) f && (deps ops f).all fun j => !fl.contains j
def doneTo (n m : Nat) : Array Bool := ((List.range n).map fun i => decide (i < m)).toArray
theorem dep_done {ls : Array Bool} {i j : Nat} {o : Oper} (ho : ops[i]? = some o) (hall : ∀ e ∈ o.after, Region.binds .any e = true → ls.getD e.on false = true) (hj : j ∈ deps ops i) : ls.getD j false = true := by
  unfold deps at hj
  rw [ho] at hj
  obtain ⟨e, he, rfl⟩ := List.mem_map.1 hj
  obtain ⟨h1, h2⟩ := List.mem_filter.1 he
  exact hall e (by simpa using h1) h2
theorem region_inv {id : Nat} {a : Act} {wk : World} {m : Nat} (ds fl : List Nat) (F : Nat → Value → World → Prop) (hm : P.follows .mixedOrders = true) (hmn : m ≤ ops.size) (hds : ds.length = m) (hnd : ds.Nodup)
    (hdep : okDeps ops m = true) (htw : okTail ops m fl = true) (hflo : okFloat ops m fl = true) (hQ : ∀ c d v a w, Q (.panic c) (Act.put a (some d) v) w → Q (.panic c) a w) (hmono : ∀ i v w w', F i v w → Below w.heap.size w w' → F i v w')
    (hstep : ∀ i, i < m → ∀ vs w, Below wk.heap.size wk w → (∀ j ∈ deps ops i, F j (vs j) w) →
      wpOp P ops Q i (fun a' w' => ∃ v, a' = (lay ds vs 0 a).put (some (ds.getD i 0)) v ∧ Below w.heap.size w w' ∧ F i v w') (lay ds vs 0 a) w)
    (hfloat : ∀ f ∈ fl, ∀ vs w, (∀ j ∈ deps ops f, F j (vs j) w) → ∃ o v, ops[f]? = some o ∧ o.dst = some (ds.getD f 0) ∧ Yields P ops o v (lay ds vs 0 a) ∧ F f v w)
    (htail : ∀ vs w, Below wk.heap.size wk w → (∀ j, j < m → F j (vs j) w) → wpAny P .any ops Q (ops.size - m) (doneTo ops.size m) (lay ds vs 0 a) w) :
    (Code.region id ops true).wp P Q a wk := by
  have hdf : ∀ k, k < m → ds[k]? = some (ds.getD k 0) := fun k hk => by
    rw [List.getElem?_eq_getElem (by omega)]; simp [List.getD, List.getElem?_eq_getElem (show k < ds.length by omega)]
  unfold okFloat at hflo
  rw [Bool.and_eq_true] at hflo
  have key : ∀ (u : Nat) (ls : Array Bool) (vs : Nat → Value) (w : World), undone m ls = u → ls.size = ops.size → (∀ j, m ≤ j → j < ops.size → ls.getD j true = false) → Below wk.heap.size wk w →
      (∀ j, j < m → ls.getD j false = true → F j (vs j) w) → wpAny P .any ops Q (u + (ops.size - m)) ls (lay ds vs 0 a) w := by
    intro u
    induction u with
    | zero =>
      intro ls vs w hu hsz hrest hB hF
      have hd := undone_zero m ls hu
      have e : ls = doneTo ops.size m := by
        apply Array.ext (by simp [doneTo, hsz])
        intro i h1 h2
        by_cases h : i < m
        · have := hd i h; simp [h1] at this; simp [doneTo, h, this]
        · have := hrest i (by omega) (by omega); simp [h1] at this; simp [doneTo, h, this]
      rw [Nat.zero_add, e]
      exact htail vs w hB (fun j hj => hF j hj (hd j hj))
    | succ u ih =>
      intro ls vs w hu hsz hrest hB hF
      obtain ⟨i0, hi0, hl0, hlow⟩ := undone_pos m ls (by omega)
      rw [show u + 1 + (ops.size - m) = (u + (ops.size - m)) + 1 by omega]
      by_cases hcore : ∃ i1, i1 < m ∧ fl.contains i1 = false ∧ ls.getD i1 false = false
      case neg =>
        have hin0 : fl.contains i0 = true := by
          cases h : fl.contains i0 with
          | true => rfl
          | false => exact absurd ⟨i0, hi0, h, hl0⟩ hcore
        have hmem : i0 ∈ fl := List.contains_iff_mem.1 hin0
        have hfo := List.all_eq_true.1 hflo.2 i0 hmem
        simp only [Bool.and_eq_true] at hfo
        have hlt : i0 < ops.size := by omega
        have hready : i0 ∈ Region.ready .any ops ls := by
          refine mem_ready.2 ⟨?_, ops[i0], by simp [hlt], fun e he hb => ?_⟩
          · rcases Nat.lt_or_ge i0 ls.size with h' | h'
            · simp [h'] at hl0 ⊢; exact hl0
            · omega
          · apply hlow
            have h1 := List.all_eq_true.1 hdep i0 (List.mem_range.2 hi0)
            have h2 := List.all_eq_true.1 h1 e.on (by
              unfold deps
              rw [show ops[i0]? = some ops[i0] by simp [hlt]]
              exact List.mem_map.2 ⟨e, List.mem_filter.2 ⟨by simpa using he, hb⟩, rfl⟩)
            exact of_decide_eq_true h2
        obtain ⟨hjun, o, ho, hall⟩ := mem_ready.1 hready
        obtain ⟨o', v, ho', hdst, hy, hFv⟩ := hfloat i0 hmem vs w (fun j hj => hF j (by
            have h1 := List.all_eq_true.1 hdep i0 (List.mem_range.2 hi0)
            have := of_decide_eq_true (List.all_eq_true.1 h1 j hj)
            omega) (dep_done ho hall hj))
        refine wpAny_first ho' (Region.noSelect_spec hflo.1) (fun c a w h => hQ c _ _ a w (by rw [hdst] at h; exact h)) _ ls _ w (fun j oj hoj hji hjls hno => ?_) hready hy ?_
        · have hjlt : j < ops.size := (Array.getElem?_eq_some_iff.1 hoj).1
          refine Region.free_spec ho' hfo.1.2 j oj hoj hji ?_ hno
          have hval : (coreTo ops.size m fl).getD j true = (decide (j < m) && !fl.contains j) := by simp [coreTo, hjlt]
          rw [hval]
          by_cases hjm : j < m
          · cases hjf : fl.contains j with
            | true => simp
            | false => exact absurd ⟨j, hjm, hjf, getD_both hjls⟩ hcore
          · simp [hjm]
        · rw [hdst, lay_put ds vs 0 a i0 _ v (hdf i0 hi0) hnd, Nat.zero_add]
          refine ih _ _ _ (by have := undone_set m ls i0 hi0 hjun; omega) (by simp [hsz]) (fun j h1 h2 => ?_) hB (fun j h1 h2 => ?_)
          · rw [getD_set_ne true (show i0 ≠ j by omega)]; exact hrest j h1 h2
          · by_cases e : j = i0
            · subst e; unfold upd; rw [if_pos rfl]; exact hFv
            · rw [getD_set_ne false (Ne.symm e)] at h2
              unfold upd; rw [if_neg e]
              exact hF j h1 h2
      obtain ⟨i1, hi1, hnf1, hl1⟩ := hcore
      refine ⟨fun h => ?_, fun i hi => ?_⟩
      · exfalso
        have hlt : i0 < ops.size := by omega
        have hin : i0 ∈ Region.ready .any ops ls := by
          refine mem_ready.2 ⟨?_, ops[i0], by simp [hlt], fun e he hb => ?_⟩
          · rcases Nat.lt_or_ge i0 ls.size with h' | h'
            · simp [h'] at hl0 ⊢; exact hl0
            · omega
          · apply hlow
            have h1 := List.all_eq_true.1 hdep i0 (List.mem_range.2 hi0)
            have h2 := List.all_eq_true.1 h1 e.on (by
              unfold deps
              rw [show ops[i0]? = some ops[i0] by simp [hlt]]
              exact List.mem_map.2 ⟨e, List.mem_filter.2 ⟨by simpa using he, hb⟩, rfl⟩)
            exact of_decide_eq_true h2
        rw [h] at hin
        cases hin
      · obtain ⟨hjun, o, ho, hall⟩ := mem_ready.1 hi
        have hilt : i < ops.size := (Array.getElem?_eq_some_iff.1 ho).1
        by_cases him : i < m
        · refine wpOp_mono ?_ (hstep i him vs w hB (fun j hj => hF j ?_ (dep_done ho hall hj)))
          · rintro a' w' ⟨v, rfl, hb, hFi⟩
            have hdi : ds[i]? = some (ds.getD i 0) := by
              rw [List.getElem?_eq_getElem (by omega)]; simp [List.getD, List.getElem?_eq_getElem (show i < ds.length by omega)]
            rw [lay_put ds vs 0 a i _ v hdi hnd, Nat.zero_add]
            refine ih _ _ _ (by have := undone_set m ls i him hjun; omega) (by simp [hsz]) (fun j h1 h2 => ?_) (hB.trans (hb.mono hB.size)) (fun j h1 h2 => ?_)
            · rw [getD_set_ne true (show i ≠ j by omega)]; exact hrest j h1 h2
            · by_cases e : j = i
              · subst e; unfold upd; rw [if_pos rfl]; exact hFi
              · rw [getD_set_ne false (Ne.symm e)] at h2
                unfold upd; rw [if_neg e]
                exact hmono j _ _ _ (hF j h1 h2) hb
          · have h1 := List.all_eq_true.1 hdep i (List.mem_range.2 him)
            have := of_decide_eq_true (List.all_eq_true.1 h1 j hj)
            omega
        · exfalso
          have h1 := List.all_eq_true.1 htw i (List.mem_range.2 hilt)
          simp only [him, decide_false, Bool.false_or] at h1
          have h2 := List.all_eq_true.1 h1 i1 (List.mem_range.2 hi1)
          rw [hnf1, Bool.false_or] at h2
          have := dep_done ho hall (List.contains_iff_mem.1 h2)
          rw [hl1] at this
          cases this
  refine wp_region_any hm ?_
  have hl : lay ds (fun i => a.tmps.getD (ds.getD i 0) undef) 0 a = a := lay_self ds _ 0 a (fun k d hk => by simp [List.getD, hk])
  have := key m (Array.replicate ops.size false) (fun i => a.tmps.getD (ds.getD i 0) undef) wk.drew (undone_all _ _) (by simp) (fun j _ hj => by simp [hj]) (Below.refl _ _).drew (fun j hj h => by
    have : j < ops.size := by omega
    simp [this] at h)
  rw [hl, show m + (ops.size - m) = ops.size by omega] at this
  exact this
theorem any_all {md : Region.Mode} {rs : List Nat} {k : Nat} {ls : Array Bool} {a : Act} {w : World} (hr : Region.ready md ops ls = rs) (hne : rs ≠ [])
    (h : ∀ i ∈ rs, wpOp P ops Q i (wpAny P md ops Q k (ls.setIfInBounds i true)) a w) : wpAny P md ops Q (k + 1) ls a w :=
  ⟨fun h0 => absurd (hr ▸ h0) hne, hr ▸ h⟩
theorem any_done {md : Region.Mode} {ls : Array Bool} {a : Act} {w : World} (hr : Region.ready md ops ls = []) (h : Q .normal a w) : ∀ k, wpAny P md ops Q k ls a w
  | 0 => ⟨hr, h⟩
  | _ + 1 => ⟨fun _ => h, by rw [hr]; simp⟩
end
/-- a box of two cells -/
def Box2 (W : World) (b : Nat) (t : TypeId) (x y : Value) : Prop := W.heap[b]? = some (.cells #[x, y] t (0, 0))
theorem Box2.lt {W : World} {b : Nat} {t : TypeId} {x y : Value} (h : Box2 W b t x y) : b < W.heap.size := (Array.getElem?_eq_some_iff.1 h).1
theorem Box2.c0 {W : World} {b : Nat} {t : TypeId} {x y : Value} (h : Box2 W b t x y) : W.cell? ⟨b, 0, none⟩ = some x := by simp [World.cell?, show W.heap[b]? = _ from h]
theorem Box2.c1 {W : World} {b : Nat} {t : TypeId} {x y : Value} (h : Box2 W b t x y) : W.cell? ⟨b, 1, none⟩ = some y := by simp [World.cell?, show W.heap[b]? = _ from h]
theorem Box2.f {W : World} {b : Nat} {t : TypeId} {x y : Value} (h : Box2 W b t x y) (q : Nat) : W.frozen? ⟨b, q, none⟩ = false := by simp [World.frozen?, show W.heap[b]? = _ from h]
theorem Box2.later {W W' : World} {b : Nat} {t : TypeId} {x y : Value} (h : Box2 W b t x y) (hb : Below W.heap.size W W') : Box2 W' b t x y := (hb.block b h.lt).trans h
theorem Box2.new (W : World) (t : TypeId) (x y : Value) : Box2 (W.alloc (.cells #[x, y] t)) W.heap.size t x y := heap_alloc_new W _
theorem Box2.other {W : World} {b b' : Nat} {t t' : TypeId} {x y x' y' : Value} (h : Box2 W b t x y) (h' : Box2 W b' t' x' y') (ht : t ≠ t') : b ≠ b' := fun e => by
  subst e
  have := (show W.heap[b]? = _ from h).symm.trans h'
  simp at this
  exact ht this.2
theorem Box2.set {W : World} {b : Nat} {t : TypeId} {x y : Value} (h : Box2 W b t x y) (u v : Value) : Box2 ((W.setCell ⟨b, 0, none⟩ u).setCell ⟨b, 1, none⟩ v) b t u v := by
  obtain ⟨hlt, hk⟩ := Array.getElem?_eq_some_iff.1 h
  have h1 : (W.setCell ⟨b, 0, none⟩ u).heap[b]? = some (.cells #[u, y] t (0, 0)) := by
    show (W.heap.modify b _)[b]? = _
    rw [Array.getElem?_eq_getElem (by rw [Array.size_modify]; exact hlt), Array.getElem_modify_self, hk]
    rfl
  obtain ⟨hlt2, hk2⟩ := Array.getElem?_eq_some_iff.1 h1
  show ((W.setCell ⟨b, 0, none⟩ u).heap.modify b _)[b]? = _
  rw [Array.getElem?_eq_getElem (by rw [Array.size_modify]; exact hlt2), Array.getElem_modify_self, hk2]
  rfl
theorem Box2.keep {W : World} {b b' : Nat} {t : TypeId} {x y : Value} (h : Box2 W b t x y) (hne : b ≠ b') (u v : Value) : Box2 ((W.setCell ⟨b', 0, none⟩ u).setCell ⟨b', 1, none⟩ v) b t x y :=
  (Below.heap_setCell _ _ _ _ (by simpa using hne)).trans ((Below.heap_setCell _ _ _ _ (by simpa using hne)).trans h)
/-- a row of the call's own is no box of another type -/
theorem Box2.not_row {W : World} {b : Nat} {t e : TypeId} {x y : Value} (h : Box2 W b t x y) (hte : t ≠ e) {base size k : Nat} {v : Value} {xs : List Value} (hr : W.ownsRow base e size v k xs) : v.ownBlock ≠ some b := by
  rcases hr.2 with ⟨rfl, _⟩ | ⟨g, cap, cur, rfl, _, hgb, _⟩
  · simp [Value.ownBlock]
  · intro e'
    obtain rfl : g = b := by simpa [Value.ownBlock] using e'
    have := (show W.heap[g]? = _ from h).symm.trans hgb
    simp at this
    exact hte this.2
end Go.Proofs.Ytgjebjoaemeeoaa.kit
