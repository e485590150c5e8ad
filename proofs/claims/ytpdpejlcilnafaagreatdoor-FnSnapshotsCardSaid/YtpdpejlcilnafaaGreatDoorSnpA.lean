/-
  Logs and their replay (merged text).
-/
import Derived.Test.YtpdpejlcilnafaaGreatDoorKit
import Derived.OrdersHeld
import Derived.RegionTactic
import Derived.Test.YtpdpejlcilnafaaGreatDoorInts
import Derived.Test.YtpdpejlcilnafaaGreatDoorStructs
import Derived.Test.YtpdpejlcilnafaaGreatDoorMach
import Derived.Test.YtpdpejlcilnafaaGreatDoorS3Plain
import Derived.Deep.Slices
import Derived.Deep.Strs
import Derived.Lib.SmallJoins
import Derived.Handy
import Derived.OwnWalk
import Derived.StillTailTactics
import Derived.Deep.RegionWith
import Derived.Deep.RegionHeld3
import Derived.Deep.QuietTactic
import Derived.BigQuiet
import Derived.Shelf.RegionOpenPlain
import Derived.Test.YtpdpejlcilnafaaGreatDoorS3Impl
import Derived.Test.YtpdpejlcilnafaaGreatDoorKept
import Derived.Test.YtpdpejlcilnafaaGreatDoorAppLen
import Derived.Test.YtpdpejlcilnafaaGreatDoorS4AppK
import Derived.Deep.RegionLaw
import Derived.Deep.RegionLawGrows
import Derived.Laws.CopyOwn
namespace Go.Proofs.YtpdpejlcilnafaaGreatDoor.kit
open Go.ChangeShapes Go.WideShapes Go.ChangeAt Go.RowKit
set_option linter.unusedVariables false
section
variable {P : Program} {ops : Array Oper} {Q : Exit → Act → World → Prop}
def lay : List Nat → (Nat → Value) → Nat → Act → Act
  | [], _, _, a => a
  | d :: ds, vs, i, a => lay ds vs (i + 1) (a.put (some d) (vs i))
def upd (vs : Nat → Value) (i : Nat) (v : Value) : Nat → Value := fun j => if j = i then v else vs j
theorem lay_put_out : ∀ (ds : List Nat) (vs : Nat → Value) (i : Nat) (a : Act) (d : Nat) (v : Value), d ∉ ds → (lay ds vs i a).put (some d) v = lay ds vs i (a.put (some d) v)
  | [], _, _, _, _, _, _ => rfl
  | e :: ds, vs, i, a, d, v, h => by
    have h1 : d ≠ e := fun x => h (by simp [x])
    have h2 : d ∉ ds := fun x => h (by simp [x])
    unfold lay
    rw [lay_put_out ds vs (i + 1) _ d v h2, Act.put_comm a (vs i) v (fun x hx hy => h1 (by cases hx; cases hy; rfl))]
theorem lay_congr : ∀ (ds : List Nat) (vs vs' : Nat → Value) (i : Nat) (a : Act), (∀ j, i ≤ j → vs j = vs' j) → lay ds vs i a = lay ds vs' i a
  | [], _, _, _, _, _ => rfl
  | e :: ds, vs, vs', i, a, h => by
    unfold lay
    rw [h i (Nat.le_refl _)]
    exact lay_congr ds vs vs' (i + 1) _ (fun j hj => h j (by omega))
theorem put_put (a : Act) (d : Nat) (v u : Value) : (a.put (some d) v).put (some d) u = a.put (some d) u := by
  unfold Act.put
  simp
theorem lay_put : ∀ (ds : List Nat) (vs : Nat → Value) (i : Nat) (a : Act) (k d : Nat) (v : Value), ds[k]? = some d → ds.Nodup → (lay ds vs i a).put (some d) v = lay ds (upd vs (i + k) v) i a
  | [], _, _, _, _, _, _, h, _ => by simp at h
  | e :: ds, vs, i, a, 0, d, v, h, hn => by
    obtain rfl : e = d := by simpa using h
    have hn' := List.nodup_cons.1 hn
    unfold lay
    rw [lay_put_out ds vs (i + 1) _ e v hn'.1, put_put]
    rw [show upd vs (i + 0) v i = v by simp [upd]]
    exact lay_congr ds _ _ (i + 1) _ (fun j hj => by unfold upd; rw [if_neg (by omega)])
  | e :: ds, vs, i, a, k + 1, d, v, h, hn => by
    have hn' := List.nodup_cons.1 hn
    unfold lay
    rw [lay_put ds vs (i + 1) _ k d v (by simpa using h) hn'.2]
    rw [show upd vs (i + (k + 1)) v i = vs i by unfold upd; rw [if_neg (by omega)], show i + 1 + k = i + (k + 1) by omega]
theorem put_self (a : Act) (d : Nat) : a.put (some d) (a.tmps.getD d undef) = a := by
  unfold Act.put
  have h : a.tmps.setIfInBounds d (a.tmps.getD d undef) = a.tmps := by
    apply Array.ext (by simp)
    intro i h1 h2
    by_cases e : d = i
    · subst e; simp [Array.getD, h2]
    · exact Array.getElem_setIfInBounds_ne h2 e
  simp only [h]
theorem lay_self : ∀ (ds : List Nat) (vs : Nat → Value) (i : Nat) (a : Act), (∀ k d, ds[k]? = some d → vs (i + k) = a.tmps.getD d undef) → lay ds vs i a = a
  | [], _, _, _, _ => rfl
  | e :: ds, vs, i, a, h => by
    unfold lay
    rw [show vs i = a.tmps.getD e undef from h 0 e rfl, put_self]
    exact lay_self ds vs (i + 1) a (fun k d hk => by rw [show i + 1 + k = i + (k + 1) by omega]; exact h (k + 1) d (by simpa using hk))
def undone : Nat → Array Bool → Nat
  | 0, _ => 0
  | m + 1, ls => undone m ls + (if ls.getD m false = true then 0 else 1)
theorem getD_both {ls : Array Bool} {i : Nat} (h : ls.getD i true = false) : ls.getD i false = false := by
  rcases Nat.lt_or_ge i ls.size with h' | h'
  · simp [h'] at h ⊢; exact h
  · simp [h'] at h
theorem getD_set_same {ls : Array Bool} {i : Nat} (h : ls.getD i true = false) : (ls.setIfInBounds i true).getD i false = true := by
  rcases Nat.lt_or_ge i ls.size with h' | h'
  · simp [h']
  · simp [h'] at h
theorem undone_ne : ∀ (m : Nat) (ls : Array Bool) (i : Nat), m ≤ i → undone m (ls.setIfInBounds i true) = undone m ls
  | 0, _, _, _ => rfl
  | m + 1, ls, i, h => by
    unfold undone
    rw [undone_ne m ls i (by omega), getD_set_ne false (show i ≠ m by omega)]
theorem undone_set : ∀ (m : Nat) (ls : Array Bool) (i : Nat), i < m → ls.getD i true = false → undone m (ls.setIfInBounds i true) + 1 = undone m ls
  | 0, _, _, h, _ => by omega
  | m + 1, ls, i, h, hi => by
    unfold undone
    by_cases e : i = m
    · subst e
      rw [undone_ne i ls i (Nat.le_refl _), if_pos (getD_set_same hi), if_neg (by rw [getD_both hi]; simp)]
    · have := undone_set m ls i (by omega) hi
      rw [getD_set_ne false e]
      omega
theorem undone_zero : ∀ (m : Nat) (ls : Array Bool), undone m ls = 0 → ∀ i, i < m → ls.getD i false = true
  | 0, _, _, _, h => by omega
  | m + 1, ls, h, i, hi => by
    unfold undone at h
    by_cases hl : ls.getD m false = true
    · by_cases e : i = m
      · rw [e]; exact hl
      · exact undone_zero m ls (by omega) i (by omega)
    · rw [if_neg hl] at h; omega
theorem undone_pos : ∀ (m : Nat) (ls : Array Bool), 0 < undone m ls → ∃ i, i < m ∧ ls.getD i false = false ∧ ∀ j, j < i → ls.getD j false = true
  | 0, _, h => by unfold undone at h; omega
  | m + 1, ls, h => by
    by_cases h0 : 0 < undone m ls
    · obtain ⟨i, h1, h2, h3⟩ := undone_pos m ls h0
      exact ⟨i, by omega, h2, h3⟩
    · unfold undone at h
      by_cases hl : ls.getD m false = true
      · rw [if_pos hl] at h; omega
      · exact ⟨m, by omega, by simpa using hl, fun j hj => undone_zero m ls (by omega) j hj⟩
theorem undone_all (n : Nat) : ∀ m, undone m (Array.replicate n false) = m
  | 0 => rfl
  | m + 1 => by
    unfold undone
    rw [undone_all n m, if_neg (by simp [Array.getElem?_replicate]; split <;> simp)]
def deps (ops : Array Oper) (i : Nat) : List Nat := match ops[i]? with
  | some o => (o.after.toList.filter (Region.binds .any)).map (·.on)
  | none => []
def okDeps (ops : Array Oper) (m : Nat) : Bool := (List.range m).all fun i => (deps ops i).all fun j => decide (j < i)
def okTail (ops : Array Oper) (m : Nat) (fl : List Nat) : Bool := (List.range ops.size).all fun j => decide (j < m) || (List.range m).all fun i => fl.contains i || (deps ops j).contains i
def coreTo (n m : Nat) (fl : List Nat) : Array Bool := ((List.range n).map fun i => decide (i < m) && !fl.contains i).toArray
def okFloat (ops : Array Oper) (m : Nat) (fl : List Nat) : Bool := Region.noSelect ops && fl.all fun f => decide (f < m) && Region.free .any ops (coreTo ops.size m fl) f && (deps ops f).all fun j => !fl.contains j
def doneTo (n m : Nat) : Array Bool := ((List.range n).map fun i => decide (i < m)).toArray
theorem dep_done {ls : Array Bool} {i j : Nat} {o : Oper} (ho : ops[i]? = some o) (hall : ∀ e ∈ o.after, Region.binds .any e = true → ls.getD e.on false = true) (hj : j ∈ deps ops i) : ls.getD j false = true := by
  unfold deps at hj
  rw [ho] at hj
  obtain ⟨e, he, rfl⟩ := List.mem_map.1 hj
  obtain ⟨h1, h2⟩ := List.mem_filter.1 he
  exact hall e (by simpa using h1) h2
theorem region_inv {id : Nat} {a : Act} {wk : World} {m : Nat} (ds fl : List Nat) (F : Nat → Value → World → Prop) (hm : P.follows .mixedOrders = true) (hmn : m ≤ ops.size) (hds : ds.length = m) (hnd : ds.Nodup)
    (hdep : okDeps ops m = true) (htw : okTail ops m fl = true) (hflo : okFloat ops m fl = true) (hQ : ∀ c d v a w, Q (.panic c) (Act.put a (some d) v) w → Q (.panic c) a w) (hmono : ∀ i v w w', F i v w → Below w.heap.size w w' → F i v w')
    (hstep : ∀ i, i < m → ∀ vs w, Below wk.heap.size wk w → (∀ j ∈ deps ops i, F j (vs j) w) →
      wpOp P ops Q i (fun a' w' => ∃ v, a' = (lay ds vs 0 a).put (some (ds.getD i 0)) v ∧ Below w.heap.size w w' ∧ F i v w') (lay ds vs 0 a) w)
    (hfloat : ∀ f ∈ fl, ∀ vs w, (∀ j ∈ deps ops f, F j (vs j) w) → ∃ o v, ops[f]? = some o ∧ o.dst = some (ds.getD f 0) ∧ Yields P ops o v (lay ds vs 0 a) ∧ F f v w)
    (htail : ∀ vs w, Below wk.heap.size wk w → (∀ j, j < m → F j (vs j) w) → wpAny P .any ops Q (ops.size - m) (doneTo ops.size m) (lay ds vs 0 a) w) :
    (Code.region id ops true).wp P Q a wk := by
  have hdf : ∀ k, k < m → ds[k]? = some (ds.getD k 0) := fun k hk => by
    rw [List.getElem?_eq_getElem (by omega)]; simp [List.getD, List.getElem?_eq_getElem (show k < ds.length by omega)]
  unfold okFloat at hflo
  rw [Bool.and_eq_true] at hflo
  have key : ∀ (u : Nat) (ls : Array Bool) (vs : Nat → Value) (w : World), undone m ls = u → ls.size = ops.size → (∀ j, m ≤ j → j < ops.size → ls.getD j true = false) → Below wk.heap.size wk w →
      (∀ j, j < m → ls.getD j false = true → F j (vs j) w) → wpAny P .any ops Q (u + (ops.size - m)) ls (lay ds vs 0 a) w := by
    intro u
    induction u with
    | zero =>
      intro ls vs w hu hsz hrest hB hF
      have hd := undone_zero m ls hu
      have e : ls = doneTo ops.size m := by
        apply Array.ext (by simp [doneTo, hsz])
        intro i h1 h2
        by_cases h : i < m
        · have := hd i h; simp [h1] at this; simp [doneTo, h, this]
        · have := hrest i (by omega) (by omega); simp [h1] at this; simp [doneTo, h, this]
      rw [Nat.zero_add, e]
      exact htail vs w hB (fun j hj => hF j hj (hd j hj))
    | succ u ih =>
      intro ls vs w hu hsz hrest hB hF
      obtain ⟨i0, hi0, hl0, hlow⟩ := undone_pos m ls (by omega)
      rw [show u + 1 + (ops.size - m) = (u + (ops.size - m)) + 1 by omega]
      by_cases hcore : ∃ i1, i1 < m ∧ fl.contains i1 = false ∧ ls.getD i1 false = false
      case neg =>
        have hin0 : fl.contains i0 = true := by
          cases h : fl.contains i0 with
          | true => rfl
          | false => exact absurd ⟨i0, hi0, h, hl0⟩ hcore
        have hmem : i0 ∈ fl := List.contains_iff_mem.1 hin0
        have hfo := List.all_eq_true.1 hflo.2 i0 hmem
        simp only [Bool.and_eq_true] at hfo
        have hlt : i0 < ops.size := by omega
        have hready : i0 ∈ Region.ready .any ops ls := by
          refine mem_ready.2 ⟨?_, ops[i0], by simp [hlt], fun e he hb => ?_⟩
          · rcases Nat.lt_or_ge i0 ls.size with h' | h'
            · simp [h'] at hl0 ⊢; exact hl0
            · omega
          · apply hlow
            have h1 := List.all_eq_true.1 hdep i0 (List.mem_range.2 hi0)
            have h2 := List.all_eq_true.1 h1 e.on (by
              unfold deps
              rw [show ops[i0]? = some ops[i0] by simp [hlt]]
              exact List.mem_map.2 ⟨e, List.mem_filter.2 ⟨by simpa using he, hb⟩, rfl⟩)
            exact of_decide_eq_true h2
        obtain ⟨hjun, o, ho, hall⟩ := mem_ready.1 hready
        obtain ⟨o', v, ho', hdst, hy, hFv⟩ := hfloat i0 hmem vs w (fun j hj => hF j (by
            have h1 := List.all_eq_true.1 hdep i0 (List.mem_range.2 hi0)
            have := of_decide_eq_true (List.all_eq_true.1 h1 j hj)
            omega) (dep_done ho hall hj))
        refine wpAny_first ho' (Region.noSelect_spec hflo.1) (fun c a w h => hQ c _ _ a w (by rw [hdst] at h; exact h)) _ ls _ w (fun j oj hoj hji hjls hno => ?_) hready hy ?_
        · have hjlt : j < ops.size := (Array.getElem?_eq_some_iff.1 hoj).1
          refine Region.free_spec ho' hfo.1.2 j oj hoj hji ?_ hno
          have hval : (coreTo ops.size m fl).getD j true = (decide (j < m) && !fl.contains j) := by simp [coreTo, hjlt]
          rw [hval]
          by_cases hjm : j < m
          · cases hjf : fl.contains j with
            | true => simp
            | false => exact absurd ⟨j, hjm, hjf, getD_both hjls⟩ hcore
          · simp [hjm]
        · rw [hdst, lay_put ds vs 0 a i0 _ v (hdf i0 hi0) hnd, Nat.zero_add]
          refine ih _ _ _ (by have := undone_set m ls i0 hi0 hjun; omega) (by simp [hsz]) (fun j h1 h2 => ?_) hB (fun j h1 h2 => ?_)
          · rw [getD_set_ne true (show i0 ≠ j by omega)]; exact hrest j h1 h2
          · by_cases e : j = i0
            · subst e; unfold upd; rw [if_pos rfl]; exact hFv
            · rw [getD_set_ne false (Ne.symm e)] at h2
              unfold upd; rw [if_neg e]
              exact hF j h1 h2
      obtain ⟨i1, hi1, hnf1, hl1⟩ := hcore
      refine ⟨fun h => ?_, fun i hi => ?_⟩
      · exfalso
        have hlt : i0 < ops.size := by omega
        have hin : i0 ∈ Region.ready .any ops ls := by
          refine mem_ready.2 ⟨?_, ops[i0], by simp [hlt], fun e he hb => ?_⟩
          · rcases Nat.lt_or_ge i0 ls.size with h' | h'
            · simp [h'] at hl0 ⊢; exact hl0
            · omega
          · apply hlow
            have h1 := List.all_eq_true.1 hdep i0 (List.mem_range.2 hi0)
            have h2 := List.all_eq_true.1 h1 e.on (by
              unfold deps
              rw [show ops[i0]? = some ops[i0] by simp [hlt]]
              exact List.mem_map.2 ⟨e, List.mem_filter.2 ⟨by simpa using he, hb⟩, rfl⟩)
            exact of_decide_eq_true h2
        rw [h] at hin
        cases hin
      · obtain ⟨hjun, o, ho, hall⟩ := mem_ready.1 hi
        have hilt : i < ops.size := (Array.getElem?_eq_some_iff.1 ho).1
        by_cases him : i < m
        · refine wpOp_mono ?_ (hstep i him vs w hB (fun j hj => hF j ?_ (dep_done ho hall hj)))
          · rintro a' w' ⟨v, rfl, hb, hFi⟩
            have hdi : ds[i]? = some (ds.getD i 0) := by
              rw [List.getElem?_eq_getElem (by omega)]; simp [List.getD, List.getElem?_eq_getElem (show i < ds.length by omega)]
            rw [lay_put ds vs 0 a i _ v hdi hnd, Nat.zero_add]
            refine ih _ _ _ (by have := undone_set m ls i him hjun; omega) (by simp [hsz]) (fun j h1 h2 => ?_) (hB.trans (hb.mono hB.size)) (fun j h1 h2 => ?_)
            · rw [getD_set_ne true (show i ≠ j by omega)]; exact hrest j h1 h2
            · by_cases e : j = i
              · subst e; unfold upd; rw [if_pos rfl]; exact hFi
              · rw [getD_set_ne false (Ne.symm e)] at h2
                unfold upd; rw [if_neg e]
                exact hmono j _ _ _ (hF j h1 h2) hb
          · have h1 := List.all_eq_true.1 hdep i (List.mem_range.2 him)
            have := of_decide_eq_true (List.all_eq_true.1 h1 j hj)
            omega
        · exfalso
          have h1 := List.all_eq_true.1 htw i (List.mem_range.2 hilt)
          simp only [him, decide_false, Bool.false_or] at h1
          have h2 := List.all_eq_true.1 h1 i1 (List.mem_range.2 hi1)
          rw [hnf1, Bool.false_or] at h2
          have := dep_done ho hall (List.contains_iff_mem.1 h2)
          rw [hl1] at this
          cases this
  refine wp_region_any hm ?_
  have hl : lay ds (fun i => a.tmps.getD (ds.getD i 0) undef) 0 a = a := lay_self ds _ 0 a (fun k d hk => by simp [List.getD, hk])
  have := key m (Array.replicate ops.size false) (fun i => a.tmps.getD (ds.getD i 0) undef) wk.drew (undone_all _ _) (by simp) (fun j _ hj => by simp [hj]) (Below.refl _ _).drew (fun j hj h => by
    have : j < ops.size := by omega
    simp [this] at h)
  rw [hl, show m + (ops.size - m) = ops.size by omega] at this
  exact this
theorem any_all {md : Region.Mode} {rs : List Nat} {k : Nat} {ls : Array Bool} {a : Act} {w : World} (hr : Region.ready md ops ls = rs) (hne : rs ≠ [])
    (h : ∀ i ∈ rs, wpOp P ops Q i (wpAny P md ops Q k (ls.setIfInBounds i true)) a w) : wpAny P md ops Q (k + 1) ls a w :=
  ⟨fun h0 => absurd (hr ▸ h0) hne, hr ▸ h⟩
theorem any_done {md : Region.Mode} {ls : Array Bool} {a : Act} {w : World} (hr : Region.ready md ops ls = []) (h : Q .normal a w) : ∀ k, wpAny P md ops Q k ls a w
  | 0 => ⟨hr, h⟩
  | _ + 1 => ⟨fun _ => h, by rw [hr]; simp⟩
end
/-- a box of two cells -/
def Box2 (W : World) (b : Nat) (t : TypeId) (x y : Value) : Prop := W.heap[b]? = some (.cells #[x, y] t (0, 0))
theorem Box2.lt {W : World} {b : Nat} {t : TypeId} {x y : Value} (h : Box2 W b t x y) : b < W.heap.size := (Array.getElem?_eq_some_iff.1 h).1
theorem Box2.c0 {W : World} {b : Nat} {t : TypeId} {x y : Value} (h : Box2 W b t x y) : W.cell? ⟨b, 0, none⟩ = some x := by simp [World.cell?, show W.heap[b]? = _ from h]
theorem Box2.c1 {W : World} {b : Nat} {t : TypeId} {x y : Value} (h : Box2 W b t x y) : W.cell? ⟨b, 1, none⟩ = some y := by simp [World.cell?, show W.heap[b]? = _ from h]
theorem Box2.f {W : World} {b : Nat} {t : TypeId} {x y : Value} (h : Box2 W b t x y) (q : Nat) : W.frozen? ⟨b, q, none⟩ = false := by simp [World.frozen?, show W.heap[b]? = _ from h]
theorem Box2.later {W W' : World} {b : Nat} {t : TypeId} {x y : Value} (h : Box2 W b t x y) (hb : Below W.heap.size W W') : Box2 W' b t x y := (hb.block b h.lt).trans h
theorem Box2.new (W : World) (t : TypeId) (x y : Value) : Box2 (W.alloc (.cells #[x, y] t)) W.heap.size t x y := heap_alloc_new W _
theorem Box2.other {W : World} {b b' : Nat} {t t' : TypeId} {x y x' y' : Value} (h : Box2 W b t x y) (h' : Box2 W b' t' x' y') (ht : t ≠ t') : b ≠ b' := fun e => by
  subst e
  have := (show W.heap[b]? = _ from h).symm.trans h'
  simp at this
  exact ht this.2
theorem Box2.set {W : World} {b : Nat} {t : TypeId} {x y : Value} (h : Box2 W b t x y) (u v : Value) : Box2 ((W.setCell ⟨b, 0, none⟩ u).setCell ⟨b, 1, none⟩ v) b t u v := by
  obtain ⟨hlt, hk⟩ := Array.getElem?_eq_some_iff.1 h
  have h1 : (W.setCell ⟨b, 0, none⟩ u).heap[b]? = some (.cells #[u, y] t (0, 0)) := by
    show (W.heap.modify b _)[b]? = _
    rw [Array.getElem?_eq_getElem (by rw [Array.size_modify]; exact hlt), Array.getElem_modify_self, hk]
    rfl
  obtain ⟨hlt2, hk2⟩ := Array.getElem?_eq_some_iff.1 h1
  show ((W.setCell ⟨b, 0, none⟩ u).heap.modify b _)[b]? = _
  rw [Array.getElem?_eq_getElem (by rw [Array.size_modify]; exact hlt2), Array.getElem_modify_self, hk2]
  rfl
theorem Box2.keep {W : World} {b b' : Nat} {t : TypeId} {x y : Value} (h : Box2 W b t x y) (hne : b ≠ b') (u v : Value) : Box2 ((W.setCell ⟨b', 0, none⟩ u).setCell ⟨b', 1, none⟩ v) b t x y :=
  (Below.heap_setCell _ _ _ _ (by simpa using hne)).trans ((Below.heap_setCell _ _ _ _ (by simpa using hne)).trans h)
/-- a row of the call's own is no box of another type -/
theorem Box2.not_row {W : World} {b : Nat} {t e : TypeId} {x y : Value} (h : Box2 W b t x y) (hte : t ≠ e) {base size k : Nat} {v : Value} {xs : List Value} (hr : W.ownsRow base e size v k xs) : v.ownBlock ≠ some b := by
  rcases hr.2 with ⟨rfl, _⟩ | ⟨g, cap, cur, rfl, _, hgb, _⟩
  · simp [Value.ownBlock]
  · intro e'
    obtain rfl : g = b := by simpa [Value.ownBlock] using e'
    have := (show W.heap[g]? = _ from h).symm.trans hgb
    simp at this
    exact hte this.2
end Go.Proofs.YtpdpejlcilnafaaGreatDoor.kit
namespace Go.Proofs.YtpdpejlcilnafaaGreatDoor.kit
open Go.ChangeShapes Go.WideShapes Go.ChangeAt Go.RowKit
set_option linter.unusedVariables false
def Mono (f : Value → World → Prop) : Prop := ∀ v w w', f v w → Below w.heap.size w w' → f v w'
def AllMono : List (Value → World → Prop) → Prop
  | [] => True
  | f :: fs => Mono f ∧ AllMono fs
def Fs (fs : List (Value → World → Prop)) (i : Nat) : Value → World → Prop := fs.getD i (fun _ _ => True)
theorem Fs_mono : ∀ {fs : List (Value → World → Prop)}, AllMono fs → ∀ i v w w', Fs fs i v w → Below w.heap.size w w' → Fs fs i v w'
  | [], _, _, _, _, _, _, _ => trivial
  | f :: fs, h, 0, v, w, w', hf, hb => h.1 v w w' hf hb
  | f :: fs, h, i + 1, v, w, w', hf, hb => Fs_mono (fs := fs) h.2 i v w w' hf hb
def isV (x : Value) : Value → World → Prop := fun v _ => v = x
theorem isV_mono (x : Value) : Mono (isV x) := fun _ _ _ h _ => h
/-- a guarded operation whose guard is met -/
theorem wpOp_stepG {P : Program} {ops : Array Oper} {Q : Exit → Act → World → Prop} {i : Nat} {o : Oper} {K : Act → World → Prop} {a : Act} {w : World} {j d : Nat} {b : Bool} {oj : Oper} (ho : ops[i]? = some o) (hg : o.guard = some (j, b)) (hj : ops[j]? = some oj) (hd : oj.dst = some d) (hv : a.tmps[d]? = some (.bool b))
    (h : ∀ K' : Act → World → Prop, (∀ a w, K a w → K' a w) → Oper.wp P o a w K' Q) : wpOp P ops Q i K a w := by
  have hw : Region.wanted o (yielded ops a.tmps) = true := by
    unfold Region.wanted yielded
    rw [hg]
    show (_ == some b) = true
    rw [hj]
    simp [hd, hv]
  unfold wpOp
  rw [ho]
  show if Region.wanted o (yielded ops a.tmps) = true then _ else _
  rw [if_pos hw]
  exact .inl (h K (fun _ _ h => h))
end Go.Proofs.YtpdpejlcilnafaaGreatDoor.kit
namespace Go.Proofs.YtpdpejlcilnafaaGreatDoor.kit
open Go.ChangeShapes Go.WideShapes Go.ChangeAt Go.RowKit Go.Deep Go.Joins
set_option linter.unusedVariables false

structure Ent where
  e : Int
  c : Int
  s : Int
  k : Int
  o : Int
  d : Int
  v : Int
theorem Ent.ext' {x y : Ent} (h0 : x.e = y.e) (h1 : x.c = y.c) (h2 : x.s = y.s) (h3 : x.k = y.k) (h4 : x.o = y.o) (h5 : x.d = y.d) (h6 : x.v = y.v) : x = y := by
  cases x; cases y; simp only at h0 h1 h2 h3 h4 h5 h6; subst h0 h1 h2 h3 h4 h5 h6; rfl
instance : DecidableEq Ent := fun x y => decidable_of_iff (x.e = y.e ∧ x.c = y.c ∧ x.s = y.s ∧ x.k = y.k ∧ x.o = y.o ∧ x.d = y.d ∧ x.v = y.v) ⟨fun h => Ent.ext' h.1 h.2.1 h.2.2.1 h.2.2.2.1 h.2.2.2.2.1 h.2.2.2.2.2.1 h.2.2.2.2.2.2, fun h => by subst h; exact ⟨rfl, rfl, rfl, rfl, rfl, rfl, rfl⟩⟩
instance : Inhabited Ent := ⟨⟨0, 0, 0, 0, 0, 0, 0⟩⟩
def z0E : Ent := ⟨0, 0, 0, 0, 0, 0, 0⟩
abbrev entC (x : Ent) : List Value := [.int .i64 x.e, .int .i64 x.c, .int .i64 x.s, .int .i64 x.k, .int .i64 x.o, .int .i64 x.d, .int .i64 x.v]
abbrev entV (x : Ent) : Value := .agg #[.int .i64 x.e, .int .i64 x.c, .int .i64 x.s, .int .i64 x.k, .int .i64 x.o, .int .i64 x.d, .int .i64 x.v]
def cellsE (l : List Ent) : List Value := l.flatMap entC
/-- the j-th one -/
def gE (l : List Ent) (j : Nat) : Ent := l.getD j z0E
theorem cellsE_nil : cellsE [] = [] := rfl
theorem cellsE_cons (x : Ent) (l : List Ent) : cellsE (x :: l) = entC x ++ cellsE l := rfl
theorem cellsE_app (l m : List Ent) : cellsE (l ++ m) = cellsE l ++ cellsE m := by simp [cellsE]
theorem cellsE_len (l : List Ent) : (cellsE l).length = l.length * 7 := by
  induction l with
  | nil => rfl
  | cons x l ih => rw [cellsE_cons, List.length_append, ih]; simp; omega
theorem cellsE_at (l : List Ent) (j : Nat) (hj : j < l.length) (k : Nat) (hk : k < 7) : (cellsE l)[j * 7 + k]? = (entC (gE l j))[k]? := by
  induction l generalizing j with
  | nil => simp at hj
  | cons x l ih =>
    rw [cellsE_cons]
    cases j with
    | zero => rw [List.getElem?_append_left (by simpa using hk)]; simp [gE]
    | succ j =>
      rw [List.getElem?_append_right (by simp; omega)]
      have e : (j + 1) * 7 + k - (entC x).length = j * 7 + k := by simp; omega
      rw [e, ih j (by simpa using hj)]
      simp [gE]
theorem gE_mem {l : List Ent} {j : Nat} (h : j < l.length) : gE l j ∈ l := by simp [gE, List.getD, h]
theorem gE_eq {l : List Ent} {j : Nat} (h : j < l.length) : gE l j = l[j] := by simp [gE, List.getD, h]
theorem gE_take {l : List Ent} {n j : Nat} (h : j < n) : gE (l.take n) j = gE l j := by simp [gE, List.getD, h]
theorem take_snocE (l : List Ent) (k : Nat) (h : k < l.length) : l.take (k + 1) = l.take k ++ [gE l k] := by
  rw [List.take_succ_eq_append_getElem h, gE_eq h]
theorem ent_forall {l : List Ent} {p : Ent → Prop} : (∀ x ∈ l, p x) ↔ ∀ j, j < l.length → p (gE l j) := by
  constructor
  · intro h j hj; exact h _ (gE_mem hj)
  · intro h x hx
    obtain ⟨j, hj, rfl⟩ := List.getElem_of_mem hx
    rw [← gE_eq hj]; exact h j hj

/-- the cells of one from place o of block g on -/
structure EntAt (w : World) (g o : Nat) (x : Ent) : Prop where
  c0 : w.cell? ⟨g, o, none⟩ = some (.int .i64 x.e)
  c1 : w.cell? ⟨g, o + 1, none⟩ = some (.int .i64 x.c)
  c2 : w.cell? ⟨g, o + 2, none⟩ = some (.int .i64 x.s)
  c3 : w.cell? ⟨g, o + 3, none⟩ = some (.int .i64 x.k)
  c4 : w.cell? ⟨g, o + 4, none⟩ = some (.int .i64 x.o)
  c5 : w.cell? ⟨g, o + 5, none⟩ = some (.int .i64 x.d)
  c6 : w.cell? ⟨g, o + 6, none⟩ = some (.int .i64 x.v)
theorem EntAt.below {w w' : World} {g o : Nat} {x : Ent} {B : Nat} (h : EntAt w g o x) (hb : Below B w w') (hB : g < B) : EntAt w' g o x :=
  ⟨(hb.cell (p := ⟨g, o, none⟩) hB).trans h.c0, (hb.cell (p := ⟨g, o + 1, none⟩) hB).trans h.c1, (hb.cell (p := ⟨g, o + 2, none⟩) hB).trans h.c2, (hb.cell (p := ⟨g, o + 3, none⟩) hB).trans h.c3, (hb.cell (p := ⟨g, o + 4, none⟩) hB).trans h.c4, (hb.cell (p := ⟨g, o + 5, none⟩) hB).trans h.c5, (hb.cell (p := ⟨g, o + 6, none⟩) hB).trans h.c6⟩
theorem EntAt.drewN {w : World} {g o : Nat} {x : Ent} (h : EntAt w g o x) (q : Nat) : EntAt (w.drewN q) g o x := ⟨h.c0, h.c1, h.c2, h.c3, h.c4, h.c5, h.c6⟩
/-- the address a leads to the list l -/
def AtE (w : World) (a : Option Addr) (l : List Ent) : Prop := ∀ j, j < l.length → ∃ g o : Nat, a = some ⟨g, o, none⟩ ∧ g < w.heap.size ∧ EntAt w g (o + j * 7) (gE l j)
theorem AtE.nil (w : World) (a : Option Addr) : AtE w a [] := fun j h => by simp at h
theorem AtE.below {w w' : World} {a : Option Addr} {l : List Ent} {B : Nat} (h : AtE w a l) (hb : Below B w w') (hB : ∀ x : Addr, a = some x → 0 < l.length → x.block < B) : AtE w' a l := fun j hj => by
  obtain ⟨g, o, hx, hlt, hc⟩ := h j hj
  have hxB := hB _ hx (by omega)
  exact ⟨g, o, hx, Nat.lt_of_lt_of_le hlt hb.size, hc.below hb hxB⟩
theorem AtE.later {w w' : World} {a : Option Addr} {l : List Ent} (h : AtE w a l) (hb : Below w.heap.size w w') : AtE w' a l :=
  h.below hb (fun x hx h0 => by obtain ⟨g, o, hx', hlt, _⟩ := h 0 h0; rw [hx] at hx'; cases hx'; exact hlt)
theorem AtE.take {w : World} {a : Option Addr} {l : List Ent} (h : AtE w a l) (n : Nat) : AtE w a (l.take n) := fun j hj => by
  rw [List.length_take] at hj
  rw [gE_take (by omega)]
  exact h j (by omega)
theorem atE_low {w : World} {a : Option Addr} {l : List Ent} (h : AtE w a l) : ∀ x : Addr, a = some x → 0 < l.length → x.block < w.heap.size := fun x hx h0 => by
  obtain ⟨g, o, hx', hlt, _⟩ := h 0 h0
  rw [hx] at hx'; cases hx'; exact hlt
/-- the slice value v is the call's own row of the list l -/
def OwnE (base : Nat) (w : World) (v : Value) (l : List Ent) : Prop := w.ownsRow base 105 7 v l.length (cellsE l)
theorem OwnE.row {base : Nat} {w : World} {v : Value} {l : List Ent} (h : OwnE base w v l) : w.ownsRow base 105 7 v l.length (cellsE l) := h
theorem entAt_of {w : World} {g j : Nat} {s : Ent} (h : ∀ k, k < 7 → w.cell? ⟨g, j + k, none⟩ = (entC s)[k]?) : EntAt w g j s :=
  ⟨h 0 (by omega), h 1 (by omega), h 2 (by omega), h 3 (by omega), h 4 (by omega), h 5 (by omega), h 6 (by omega)⟩
theorem OwnE.at {base : Nat} {w : World} {g cap : Nat} {l : List Ent} (h : OwnE base w (.slice (some ⟨g, 0, none⟩) l.length cap) l) (j : Nat) (hj : j < l.length) : EntAt w g (j * 7) (gE l j) :=
  entAt_of (fun k hk => by rw [h.row.cellAt (j * 7 + k) (by omega)]; exact cellsE_at l j hj k hk)
theorem OwnE.form {base : Nat} {w : World} {v : Value} {l : List Ent} (h : OwnE base w v l) : ∃ a cap, v = .slice a l.length cap ∧ l.length ≤ cap ∧ cap ≤ maxLen ∧ AtE w a l ∧ (∀ x, a = some x → base ≤ x.block ∧ x.block < w.heap.size) := by
  rcases h.2 with ⟨rfl, h0⟩ | ⟨g, c, cur, rfl, hg, hh, hn, hm, _⟩
  · obtain rfl := List.eq_nil_of_length_eq_zero h0
    exact ⟨none, 0, rfl, Nat.le_refl _, Nat.zero_le _, AtE.nil _ _, fun x hx => by cases hx⟩
  · have hlt : g < w.heap.size := (Array.getElem?_eq_some_iff.1 hh).1
    exact ⟨_, _, rfl, hn, hm, fun j hj => ⟨g, 0, rfl, hlt, by rw [Nat.zero_add]; exact h.at j hj⟩, fun x hx => by cases hx; exact ⟨hg, hlt⟩⟩
theorem OwnE.shape {base : Nat} {w : World} {v : Value} {l : List Ent} (h : OwnE base w v l) : ∃ a c, v = .slice a l.length c := by obtain ⟨a, c, h1, _⟩ := h.form; exact ⟨a, c, h1⟩
theorem OwnE.there {base : Nat} {w : World} {v : Value} {l : List Ent} (h : OwnE base w v l) (h0 : 0 < l.length) : ∃ g cap, v = .slice (some ⟨g, 0, none⟩) l.length cap ∧ l.length ≤ cap ∧ cap ≤ maxLen ∧ base ≤ g ∧ g < w.heap.size := by
  rcases h.2 with ⟨rfl, h1⟩ | ⟨g, c, cur, rfl, hg, hh, hn, hm, _⟩
  · omega
  · exact ⟨g, c, rfl, hn, hm, hg, (Array.getElem?_eq_some_iff.1 hh).1⟩
theorem OwnE.mono {base base' : Nat} {w : World} {v : Value} {l : List Ent} (h : OwnE base w v l) (hb : base' ≤ base) : OwnE base' w v l :=
  ⟨h.1, h.2.imp id (fun ⟨g, c, cur, hv, hg, r⟩ => ⟨g, c, cur, hv, by omega, r⟩)⟩
theorem OwnE.later {base : Nat} {w w' : World} {v : Value} {l : List Ent} (h : OwnE base w v l) (hb : Below w.heap.size w w') : OwnE base w' v l :=
  ⟨h.1, h.2.imp id (fun ⟨g, c, cur, hv, hg, hh, r⟩ => ⟨g, c, cur, hv, hg, (hb.block g (Array.getElem?_eq_some_iff.1 hh).1).trans hh, r⟩)⟩
theorem OwnE.of {base : Nat} {w : World} {v : Value} {l : List Ent} {n : Nat} {cs : List Value} (h : w.ownsRow base 105 7 v n cs) (hc : cs = cellsE l) : OwnE base w v l := by
  subst hc
  have hn : n = l.length := by have := h.1; rw [cellsE_len] at this; omega
  subst hn
  exact h
theorem OwnE.block {base : Nat} {w : World} {v : Value} {l : List Ent} (h : OwnE base w v l) : ∀ g, v.ownBlock = some g → base ≤ g ∧ g < w.heap.size := h.row.lt
theorem OwnE.marked {base : Nat} {w w' : World} {v u : Value} {l : List Ent} (h : OwnE base w u l) (hg : w.grownBy w' v.ownBlock) (hne : ∀ g, v.ownBlock = some g → u.ownBlock = some g → False) : OwnE base w' u l := by
  refine h.row.kept hg ?_
  cases hu : u.ownBlock with
  | none => exact .inl rfl
  | some g => exact .inr fun e => hne g e.symm hu
theorem OwnE.setBelow {base : Nat} {w : World} {v : Value} {l : List Ent} (h : OwnE base w v l) {a : Addr} (ha : a.block < base) (u : Value) : OwnE base (w.setCell a u) v l := ownsRow_setCell_below h ha u
theorem ownE_new (w : World) (base : Nat) (h : base ≤ w.heap.size) : OwnE base (w.alloc (.cells #[] 105)) (.slice (some ⟨w.heap.size, 0, none⟩) 0 0) [] := World.ownsRow_lit w #[] 0 h (by unfold maxLen; omega) rfl
theorem infoE : (Tryz.prog.info? 105).map (fun i => (i.zero, i.size, i.bytes)) = some (some (.agg #[.int .i64 0, .int .i64 0, .int .i64 0, .int .i64 0, .int .i64 0, .int .i64 0, .int .i64 0]), 7, 56) := by kernel_rfl
end Go.Proofs.YtpdpejlcilnafaaGreatDoor.kit
namespace Go.Proofs.YtpdpejlcilnafaaGreatDoor.kit
open Go.ChangeShapes Go.WideShapes Go.ChangeAt Go.RowKit
set_option linter.unusedVariables false
def isM (N : Nat) (L1 : List Int) (L2 : List Sess) (k : Value → Value) : Value → World → Prop := fun v w => ∃ x1 x2, v = k (.agg #[x1, x2]) ∧ OwnI N w x1 L1 ∧ OwnS N w x2 L2
theorem isM_mono (N : Nat) (L1 : List Int) (L2 : List Sess) (k : Value → Value) : Mono (isM N L1 L2 k) := fun _ _ _ ⟨x1, x2, h, h1, h2⟩ hb => ⟨x1, x2, h, h1.later hb, h2.later hb⟩
def isB (N : Nat) (t : TypeId) (x y : Value) : Value → World → Prop := fun v w => ∃ p, v = .pointer (some ⟨p, 0, none⟩) ∧ Box2 w p t x y ∧ N ≤ p
theorem isB_mono (N : Nat) (t : TypeId) (x y : Value) : Mono (isB N t x y) := fun _ _ _ ⟨p, h, h1, h2⟩ hb => ⟨p, h, h1.later hb, h2⟩
def isE (N : Nat) (L : List Ent) : Value → World → Prop := fun v w => OwnE N w v L
theorem isE_mono (N : Nat) (L : List Ent) : Mono (isE N L) := fun _ _ _ h hb => OwnE.later h hb
theorem row_set2 {W : World} {base : Nat} {e : TypeId} {size k b : Nat} {v : Value} {xs : List Value} {t : TypeId} {x y : Value} (hr : W.ownsRow base e size v k xs) (hb : Box2 W b t x y) (hte : t ≠ e) (u z : Value) :
    ((W.setCell ⟨b, 0, none⟩ u).setCell ⟨b, 1, none⟩ z).ownsRow base e size v k xs :=
  ownsRow_setCell_other (ownsRow_setCell_other hr (hb.not_row hte hr) u) (hb.not_row hte hr) z
theorem below_set2 {B b : Nat} {w W : World} (h : Below B w W) (hb : B ≤ b) (u z : Value) : Below B w ((W.setCell ⟨b, 0, none⟩ u).setCell ⟨b, 1, none⟩ z) :=
  (h.setCell (p := ⟨b, 0, none⟩) hb u).setCell (p := ⟨b, 1, none⟩) hb z
end Go.Proofs.YtpdpejlcilnafaaGreatDoor.kit
namespace Go.Proofs.YtpdpejlcilnafaaGreatDoor.kit
open Go.ChangeShapes Go.WideShapes Go.ChangeAt Go.RowKit
set_option linter.unusedVariables false

def newO : List Int := [0, 0, 0]
def newS : List Sess := []
theorem newO_len : newO.length ≤ 4194304 := by simp [newO]
theorem newS_len : newS.length ≤ 4194304 := by simp [newS]
theorem own_newS (b : Nat) (w : World) : OwnS b w (.slice none 0 0) newS := World.ownsRow_nil w b _ 4
theorem own_three (b : Nat) (w : World) (hb : b ≤ w.heap.size) : OwnI b (w.alloc (.cells #[.int .i64 0, .int .i64 0, .int .i64 0] 3)) (.slice (some ⟨w.heap.size, 0, none⟩) 3 3) newO :=
  OwnI.of (World.ownsRow_lit w #[.int .i64 0, .int .i64 0, .int .i64 0] 3 hb (by unfold maxLen; omega) rfl) rfl
theorem made3 : madeCells #[.int .i64 0] 3 = #[.int .i64 0, .int .i64 0, .int .i64 0] := by
  apply Array.ext'
  rw [toList_madeCells_one]
  rfl
set_option maxRecDepth 100000 in
theorem specNewMachine (w : World) : Calls Tryz.prog 72 #[] w fun e w' => ∃ v1 v2, e = .returned (.agg #[v1, v2]) ∧ OwnI w.heap.size w' v1 newO ∧ OwnS w.heap.size w' v2 newS ∧ Below w.heap.size w w' := by
  go_enter Tryz.func72, Tryz.ntmps72
  go_wp2_with fail
  refine bodyPost_ret (v := .agg #[.slice (some ⟨w.heap.size + 1, 0, none⟩) 3 3, .slice none 0 0]) (by simp [results, Tryz.results72, go_sem]) rfl ⟨_, _, rfl, ?_, own_newS _ _, by go_grown⟩
  have h := own_three w.heap.size (w.alloc (.cells #[.slice (some ⟨w.heap.size + 1, 0, none⟩) 3 3, .slice none 0 0] 30)) (by simp)
  simpa using h
set_option maxRecDepth 100000 in
theorem implNewMachine (w : World) : Calls Tryz.prog 69 #[] w fun e w' => ∃ v1 v2, e = .returned (.agg #[v1, v2]) ∧ OwnI w.heap.size w' v1 newO ∧ OwnS w.heap.size w' v2 newS ∧ Below w.heap.size w w' := by
  have hmk : ∀ W : World, (Instr.makeSlice 27 (.int .i64 3) (.int .i64 3)).run Tryz.prog W = .ok (.slice (some ⟨W.heap.size, 0, none⟩) 3 3) (W.alloc (.cells #[.int .i64 0, .int .i64 0, .int .i64 0] 3)) := fun W => by
    have h := run_make_row' (P := Tryz.prog) 27 3 (.int .i64 0) 8 Tryz.underlying27 infoI rfl .i64 .i64 3 (by omega) (by omega) W
    rw [made3] at h
    exact h
  go_enter Tryz.func69, Tryz.ntmps69
  go_wp2_with fail
  refine bodyPost_ret (v := .agg #[.slice (some ⟨w.heap.size + 1, 0, none⟩) 3 3, .slice none 0 0]) (by simp [results, Tryz.results69, go_sem]) rfl ⟨_, _, rfl, ?_, own_newS _ _, by go_grown⟩
  have h := own_three w.heap.size (w.alloc (.cells #[.slice (some ⟨w.heap.size + 1, 0, none⟩) 3 3, .slice none 0 0] 30)) (by simp)
  simpa using h
end Go.Proofs.YtpdpejlcilnafaaGreatDoor.kit
namespace Go.Proofs.YtpdpejlcilnafaaGreatDoor.kit
open Go.ChangeShapes Go.WideShapes Go.ChangeAt Go.RowKit
set_option linter.unusedVariables false

theorem gE_rep (n j : Nat) : gE (List.replicate n z0E) j = z0E := by
  by_cases h : j < n
  · simp [gE, List.getD, h]
  · simp [gE, List.getD, h]
theorem made_ent (n : Nat) : (madeCells #[.int .i64 0, .int .i64 0, .int .i64 0, .int .i64 0, .int .i64 0, .int .i64 0, .int .i64 0] (n * 7)).toList = cellsE (List.replicate n z0E) := by
  apply List.ext_getElem?
  intro j
  by_cases hj : j < n * 7
  · have e : j = j / 7 * 7 + j % 7 := by omega
    have h1 : (cellsE (List.replicate n z0E))[j]? = (entC z0E)[j % 7]? := by
      conv => lhs; rw [e]
      rw [cellsE_at _ (j / 7) (by simp; omega) (j % 7) (by omega), gE_rep]
    rw [h1]
    have h4 : j % 7 < 7 := by omega
    simp only [madeCells, Array.toList_map, List.getElem?_map, Array.toList_range, List.getElem?_range hj, Option.map_some]
    generalize j % 7 = k at h4
    match k, h4 with
    | 0, _ => rfl
    | 1, _ => rfl
    | 2, _ => rfl
    | 3, _ => rfl
    | 4, _ => rfl
    | 5, _ => rfl
    | 6, _ => rfl
  · rw [List.getElem?_eq_none (by simp [madeCells]; omega), List.getElem?_eq_none (by rw [cellsE_len]; simp; omega)]
/-- the row's list behind a store of a whole one -/
theorem cellsE_set (l : List Ent) (k : Nat) (x : Ent) (hk : k < l.length) :
    ((((((((cellsE l).set (k * 7) (.int .i64 x.e)).set (k * 7 + 1) (.int .i64 x.c)).set (k * 7 + 2) (.int .i64 x.s)).set (k * 7 + 3) (.int .i64 x.k)).set (k * 7 + 4) (.int .i64 x.o)).set (k * 7 + 5) (.int .i64 x.d)).set (k * 7 + 6) (.int .i64 x.v)) = cellsE (l.set k x) := by
  have e : l = l.take k ++ [l[k]] ++ l.drop (k + 1) := by simp
  have e2 : l.set k x = l.take k ++ [x] ++ l.drop (k + 1) := by rw [List.set_eq_take_append_cons_drop]; simp [hk]
  have hl : (cellsE (l.take k)).length = k * 7 := by rw [cellsE_len]; simp; omega
  rw [e2]
  conv => lhs; rw [e]
  simp only [cellsE_app]
  have f := fun (b : List Value) (i : Nat) (u : Value) (hb : i < b.length) => set_app_mid (cellsE (l.take k)) b (cellsE (l.drop (k + 1))) i u hb
  rw [hl] at f
  have f0 := f (cellsE [l[k]]) 0 (.int .i64 x.e) (by simp [cellsE])
  simp only [Nat.add_zero] at f0
  rw [f0, f _ 1 _ (by simp [cellsE]), f _ 2 _ (by simp [cellsE]), f _ 3 _ (by simp [cellsE]), f _ 4 _ (by simp [cellsE]), f _ 5 _ (by simp [cellsE]), f _ 6 _ (by simp [cellsE])]
  simp [cellsE]
/-- what copying k of them has laid -/
def partE (L : List Ent) (k : Nat) : List Ent := L.take k ++ List.replicate (L.length - k) z0E
theorem partE_len (L : List Ent) (k : Nat) (h : k ≤ L.length) : (partE L k).length = L.length := by simp [partE]; omega
theorem partE_zero (L : List Ent) : partE L 0 = List.replicate L.length z0E := by simp [partE]
theorem partE_all (L : List Ent) : partE L L.length = L := by simp [partE]
theorem partE_set (L : List Ent) (k : Nat) (h : k < L.length) : (partE L k).set k (gE L k) = partE L (k + 1) := by
  unfold partE
  have e : L.length - k = (L.length - (k + 1)) + 1 := by omega
  rw [e, List.replicate_succ, List.set_append_right (h := by simp; omega)]
  have e2 : k - (L.take k).length = 0 := by simp; omega
  rw [e2, List.set_cons_zero, gE_eq h, List.take_succ_eq_append_getElem h, List.append_assoc]
  rfl
end Go.Proofs.YtpdpejlcilnafaaGreatDoor.kit
namespace Go.Proofs.YtpdpejlcilnafaaGreatDoor.kit
open Go.ChangeShapes Go.WideShapes Go.ChangeAt Go.RowKit
set_option linter.unusedVariables false

theorem eq_takeE {a b : List Ent} {k : Nat} (hl : a.length = b.length) (hk : a.length ≤ k) (h : ∀ j, j < k → gE a j = gE b j) : a = b := by
  apply List.ext_getElem hl
  intro j h1 h2
  have := h j (by omega)
  rw [gE_eq h1, gE_eq h2] at this
  exact this
/-- what marking leaves -/
def markE (k : Int) (j : Nat) : Ent := ⟨k + 7 * (j : Int), k + 7 * (j : Int) + 1, k + 7 * (j : Int) + 1 + 1, k + 7 * (j : Int) + 1 + 1 + 1, k + 7 * (j : Int) + 1 + 1 + 1 + 1, k + 7 * (j : Int) + 1 + 1 + 1 + 1 + 1, k + 7 * (j : Int) + 1 + 1 + 1 + 1 + 1 + 1⟩
def marksE (k : Int) (n : Nat) : List Ent := (List.range n).map (markE k)
theorem marksE_len (k : Int) (n : Nat) : (marksE k n).length = n := by simp [marksE]
theorem marksE_get (k : Int) (n j : Nat) (h : j < n) : gE (marksE k n) j = markE k j := by simp [marksE, gE, List.getD, h]
theorem marksE_succ (k : Int) (j : Nat) : marksE k (j + 1) = marksE k j ++ [markE k j] := by simp [marksE, List.range_succ]
theorem marksE_set (k : Int) (j : Nat) (l : List Ent) (h : j < l.length) : (marksE k j ++ l.drop j).set j (markE k j) = marksE k (j + 1) ++ l.drop (j + 1) := by
  rw [marksE_succ, List.drop_eq_getElem_cons h, List.set_append_right (h := by rw [marksE_len]; exact Nat.le_refl _), marksE_len, Nat.sub_self, List.set_cons_zero, List.append_assoc]
  rfl
end Go.Proofs.YtpdpejlcilnafaaGreatDoor.kit
namespace Go.Proofs.YtpdpejlcilnafaaGreatDoor.kit
open Go.ChangeShapes Go.WideShapes Go.ChangeAt Go.RowKit
set_option linter.unusedVariables false

def okE (n : Int) : Bool := decide (1 ≤ n ∧ n ≤ 20)
def entOk (x : Ent) : Bool := okE x.e && okOp x.c x.s x.k x.o x.d x.v
/-- the j-th entry is valid and its epoch does not fall -/
def entAsc (l : List Ent) (j : Nat) : Prop := entOk (gE l j) = true ∧ (0 < j → (gE l (j - 1)).e ≤ (gE l j).e)
instance (l : List Ent) (j : Nat) : Decidable (entAsc l j) := by unfold entAsc; infer_instance
def LOk (l : List Ent) : Prop := (∀ j, j < l.length → entAsc l j) ∧ l.length ≤ 16
instance (l : List Ent) : Decidable (LOk l) := by unfold LOk; infer_instance
theorem not_LOk_len {l : List Ent} (h : 16 < l.length) : decide (LOk l) = false := decide_eq_false (fun m => by have := m.2; omega)
theorem not_LOk_bad {l : List Ent} {k : Nat} (h : k < l.length) (hv : entOk (gE l k) = false) : decide (LOk l) = false :=
  decide_eq_false (fun m => by have := (m.1 k h).1; rw [hv] at this; cases this)
theorem not_LOk_asc {l : List Ent} {k : Nat} (h : k < l.length) (h0 : 0 < k) (hv : (gE l k).e < (gE l (k - 1)).e) : decide (LOk l) = false :=
  decide_eq_false (fun m => by have := (m.1 k h).2 h0; omega)
theorem LOk.take {l : List Ent} (h : LOk l) (n : Nat) : LOk (l.take n) := by
  refine ⟨fun j hj => ?_, by rw [List.length_take]; have := h.2; omega⟩
  rw [List.length_take] at hj
  have := h.1 j (by omega)
  unfold entAsc at this ⊢
  rw [gE_take (by omega), gE_take (by omega)]
  exact this
/-- how many entries two lists have in common at their beginnings -/
def comPre : List Ent → List Ent → Nat
  | x :: a, y :: b => if x = y then comPre a b + 1 else 0
  | _, _ => 0
theorem comPre_of : ∀ (a b : List Ent) (k : Nat), k ≤ a.length → k ≤ b.length → (∀ j, j < k → gE a j = gE b j) → (k < a.length → k < b.length → gE a k ≠ gE b k) → comPre a b = k
  | [], b, k, h1, _, _, _ => by
    have : k = 0 := by simpa using h1
    subst this; rfl
  | x :: a, [], k, _, h2, _, _ => by
    have : k = 0 := by simpa using h2
    subst this; rfl
  | x :: a, y :: b, 0, _, _, _, h => by
    have := h (by simp) (by simp)
    have hxy : x ≠ y := this
    unfold comPre
    rw [if_neg hxy]
  | x :: a, y :: b, k + 1, h1, h2, h3, h4 => by
    have hxy : x = y := h3 0 (by omega)
    unfold comPre
    rw [if_pos hxy, comPre_of a b k (by simpa using h1) (by simpa using h2) (fun j hj => h3 (j + 1) (by omega)) (fun p q => h4 (by simpa using p) (by simpa using q))]
theorem comPre_le (a b : List Ent) : comPre a b ≤ a.length ∧ comPre a b ≤ b.length := by
  induction a generalizing b with
  | nil => simp [comPre]
  | cons x a ih =>
    cases b with
    | nil => simp [comPre]
    | cons y b =>
      unfold comPre
      have := ih b
      split <;> simp <;> omega
def isPre (a b : List Ent) : Bool := decide (comPre a b = a.length)
/-- the first entry with this client and Seq; -1: none -/
def isIt (c s : Int) (x : Ent) : Bool := x.c == c && x.s == s
def findE (l : List Ent) (c s : Int) : Int := match l.findIdx? (isIt c s) with
  | some i => (i : Int)
  | none => -1
theorem findE_hit {l : List Ent} {c s : Int} {k : Nat} (hk : k < l.length) (hb : ∀ j, j < k → isIt c s (gE l j) = false) (h : isIt c s (gE l k) = true) : findE l c s = (k : Int) := by
  have e : l.findIdx? (isIt c s) = some k := by
    rw [List.findIdx?_eq_some_iff_getElem]
    refine ⟨hk, by rw [← gE_eq hk]; exact h, fun j hj => ?_⟩
    have := hb j hj
    rw [gE_eq (by omega)] at this
    simp [this]
  unfold findE
  rw [e]
theorem findE_none {l : List Ent} {c s : Int} (hb : ∀ j, j < l.length → isIt c s (gE l j) = false) : findE l c s = -1 := by
  have e : l.findIdx? (isIt c s) = none := by
    rw [List.findIdx?_eq_none_iff]
    intro x hx
    obtain ⟨j, hj, rfl⟩ := List.getElem_of_mem hx
    rw [← gE_eq hj]
    exact hb j hj
  unfold findE
  rw [e]
/-- a list with one entry more, if that is a log -/
def appEok (l : List Ent) (x : Ent) : Bool := decide (LOk (l ++ [x]))
def appE (l : List Ent) (x : Ent) : List Ent := if appEok l x then l ++ [x] else l
theorem LOk_init {l : List Ent} {x : Ent} (h : LOk (l ++ [x])) : LOk l := by
  have := h.take l.length
  simpa using this
theorem appE_len (l : List Ent) (x : Ent) (h : l.length ≤ 1048576) : (appE l x).length ≤ 2097152 := by
  unfold appE
  by_cases hx : appEok l x = true
  · rw [if_pos hx, List.length_append]; simp; omega
  · rw [if_neg hx]; omega
end Go.Proofs.YtpdpejlcilnafaaGreatDoor.kit
namespace Go.Proofs.YtpdpejlcilnafaaGreatDoor.kit
open Go.ChangeShapes Go.WideShapes Go.ChangeAt Go.RowKit
set_option linter.unusedVariables false

structure LaterOf (w : World) where
  W : World
  h : Below w.heap.size w W
instance (w : World) : Inhabited (LaterOf w) := ⟨⟨w, Below.refl _ _⟩⟩
theorem wp_region_later {P : Program} {id : Nat} {Q : Exit → Act → World → Prop} {a : Act} {w : World} {l : List Oper} (hm : P.follows .mixedOrders = true) (hB : Region.lexB .any l.toArray = true)
    (h : wpQuiet P l.toArray (fun w' => ∃ p : LaterOf w, w' = p.W) (fun a' => ∀ w', (∃ p : LaterOf w, w' = p.W) → Q .normal a' w') l a) : (Code.region id l.toArray true).wp P Q a w :=
  wp_region_quiet (C := fun w' => ∃ p : LaterOf w, w' = p.W) hm hB ⟨⟨w.drew, (Below.refl _ _).drew⟩, rfl⟩ (by simpa using h)
theorem LaterOf.cell {w : World} {a : Addr} {v : Value} (hb : a.block < w.heap.size) (h : w.cell? a = some v) (p : LaterOf w) : p.W.cell? a = some v := (p.h.cell hb).trans h
theorem Calls.later_of {P : Program} {f : FuncId} {args : Array Value} {w : World} {p : LaterOf w} {v : Value}
    (h : Calls P f args p.W fun e w' => e = .returned v ∧ Below p.W.heap.size p.W w') : Calls P f args p.W fun e w'' => e = .returned v ∧ ∃ q : LaterOf w, w'' = q.W :=
  h.mono fun _ w' ⟨he, hb⟩ => ⟨he, ⟨w', p.h.trans (hb.mono p.h.size)⟩, rfl⟩
theorem same_below {P : Program} {f : FuncId} {args : Array Value} {w : World} {v : Value} (h : Calls P f args w fun e w' => e = .returned v ∧ w = w') : Calls P f args w fun e w' => e = .returned v ∧ Below w.heap.size w w' :=
  h.mono fun _ w' ⟨he, hb⟩ => ⟨he, by rw [← hb]; exact Below.refl _ _⟩
end Go.Proofs.YtpdpejlcilnafaaGreatDoor.kit
namespace Go.Proofs.YtpdpejlcilnafaaGreatDoor.kit
open Go.ChangeShapes Go.WideShapes Go.ChangeAt Go.RowKit
set_option linter.unusedVariables false

set_option maxRecDepth 100000 in
set_option maxHeartbeats 4000000 in
theorem specIsLogA (a : Option Addr) (c : Nat) (L : List Ent) (w : World) (hl : L.length ≤ 2097152) (ha : AtE w a L) :
    Calls Tryz.prog 33 #[.slice a L.length c] w fun e w' => e = .returned (.bool (decide (LOk L))) ∧ Below w.heap.size w w' := by
  have HA := Lib.hid ha
  clear ha
  go_enter Tryz.func33, Tryz.ntmps33
  go_wp2_with fail
  go_loopw [3] (fun i wr => ∃ k : Nat, k ≤ L.length ∧ i = .int .i64 k ∧ Hid (∀ j, j < k → entAsc L j) ∧ Hid (Below w.heap.size w wr)) (fun i _ => L.length - (intOf i).toNat)
  case atStart => exact ⟨0, Nat.zero_le _, rfl, Lib.hid (fun j h => by omega), Lib.hid (Below.refl _ _)⟩
  case round =>
    obtain ⟨k, hk, rfl, HE, HQ⟩ := hrel
    by_cases hlt : k < L.length
    · skip
      obtain ⟨g, o, rfl, hg, hc⟩ := HA.out k hlt
      obtain ⟨c0, c1, c2, c3, c4, c5, c6⟩ := hc.below HQ.out hg
      have hpr : 0 < k → wr.cell? ⟨g, o + (k - 1) * 7, none⟩ = some (.int .i64 (gE L (k - 1)).e) := fun h0 => by
        obtain ⟨g', o', he, hg', hc'⟩ := HA.out (k - 1) (by omega)
        cases he
        exact (hc'.below HQ.out hg').c0
      obtain ⟨xe, xc, xs, xk, xo, xd, xv, hx⟩ : ∃ xe xc xs xk xo xd xv, gE L k = ⟨xe, xc, xs, xk, xo, xd, xv⟩ := ⟨_, _, _, _, _, _, _, rfl⟩
      rw [hx] at c0 c1 c2 c3 c4 c5 c6
      simp only at c0 c1 c2 c3 c4 c5 c6
      have HX := Lib.hid hx
      clear hx hc
      have hgr : g < wr.heap.size := Nat.lt_of_lt_of_le hg HQ.out.size
      have q0 := LaterOf.cell (a := ⟨g, o + k * 7, none⟩) hgr c0
      have q1 := LaterOf.cell (a := ⟨g, o + k * 7 + 1, none⟩) hgr c1
      have q2 := LaterOf.cell (a := ⟨g, o + k * 7 + 2, none⟩) hgr c2
      have q3 := LaterOf.cell (a := ⟨g, o + k * 7 + 3, none⟩) hgr c3
      have q4 := LaterOf.cell (a := ⟨g, o + k * 7 + 4, none⟩) hgr c4
      have q5 := LaterOf.cell (a := ⟨g, o + k * 7 + 5, none⟩) hgr c5
      have q6 := LaterOf.cell (a := ⟨g, o + k * 7 + 6, none⟩) hgr c6
      clear c0 c1 c2 c3 c4 c5 c6
      have j1 := fun W => same_below (in_c xe 1 20 W)
      have j2 := fun W => specIsValidOp xc xs xk xo xd xv W
      unfold opV at j2
      rw [show decide (1 ≤ xe ∧ xe ≤ 20) = okE xe from rfl] at j1
      have J1 : ∀ W, Hid _ := fun W => Lib.hid (j1 W)
      have J2 : ∀ W, Hid _ := fun W => Lib.hid (j2 W)
      clear j1 j2
      have k3 : (0 : Int) ≤ (k : Int) := by omega
      have k5 : (k : Int) < (L.length : Int) := by omega
      go_wp2_with fail
      cases hE : okE xe with
      | false =>
        have HF := Lib.hid (not_LOk_bad hlt (by rw [HX.out]; simp [entOk, hE]))
        rw [hE] at J1
        clear hE hpr
        refine wp_region_later (by kernel_rfl) (by kernel_rfl) ?_
        repeat (go_big_quiet_step (first | (with_reducible exact Calls.later_of (J1 _).out) | (with_reducible exact Calls.later_of (J2 _).out)))
        refine wpQuiet_nil ?_
        intro _ hw'
        obtain ⟨⟨wz, hwz⟩, hw''⟩ := hw'
        subst hw''
        have HZ := Lib.hid (HQ.out.trans (hwz.mono HQ.out.size))
        clear hwz
        go_wp2_with fail
        go_ret
        exact ⟨by rw [HF.out]; rfl, HZ.out⟩
      | true =>
        rw [hE] at J1
        cases hO : okOp xc xs xk xo xd xv with
        | false =>
          have HF := Lib.hid (not_LOk_bad hlt (by rw [HX.out]; simp [entOk, hO]))
          rw [hO] at J2
          clear hE hO hpr
          refine wp_region_later (by kernel_rfl) (by kernel_rfl) ?_
          repeat (go_big_quiet_step (first | (with_reducible exact Calls.later_of (J1 _).out) | (with_reducible exact Calls.later_of (J2 _).out)))
          refine wpQuiet_nil ?_
          intro _ hw'
          obtain ⟨⟨wz, hwz⟩, hw''⟩ := hw'
          subst hw''
          have HZ := Lib.hid (HQ.out.trans (hwz.mono HQ.out.size))
          clear hwz
          go_wp2_with fail
          go_ret
          exact ⟨by rw [HF.out]; rfl, HZ.out⟩
        | true =>
          have HOK := Lib.hid (show entOk (gE L k) = true by rw [HX.out]; simp [entOk, hE, hO])
          rw [hO] at J2
          clear hE hO
          by_cases h0 : 0 < k
          · have pr := hpr h0
            clear hpr
            have i1 : decide ((0 : Int) < (k : Int)) = true := by simp; omega
            have i2 : IntKind.i64.wrap ((k : Int) - 1) = (k : Int) - 1 := IntWalk.i64_in _ (by omega)
            have i3 : (0 : Int) ≤ (k : Int) - 1 := by omega
            have i4 : ((k : Int) - 1).toNat = k - 1 := by omega
            have i5 : (k : Int) - 1 < (L.length : Int) := by omega
            have p0 := LaterOf.cell (a := ⟨g, o + (k - 1) * 7, none⟩) hgr pr
            by_cases hq : xe < (gE L (k - 1)).e
            · have HF := Lib.hid (not_LOk_asc hlt h0 (by rw [HX.out]; exact hq))
              have hq' : decide (xe < (gE L (k - 1)).e) = true := decide_eq_true hq
              clear hq
              generalize (gE L (k - 1)).e = ye at *
              refine wp_region_later (by kernel_rfl) (by kernel_rfl) ?_
              repeat (go_big_quiet_step (first | (with_reducible exact Calls.later_of (J1 _).out) | (with_reducible exact Calls.later_of (J2 _).out)))
              refine wpQuiet_nil ?_
              intro _ hw'
              obtain ⟨⟨wz, hwz⟩, hw''⟩ := hw'
              subst hw''
              have HZ := Lib.hid (HQ.out.trans (hwz.mono HQ.out.size))
              clear hwz
              go_wp2_with fail
              go_ret
              exact ⟨by rw [HF.out]; rfl, HZ.out⟩
            · have HE2 := Lib.hid (show ∀ j, j < k + 1 → entAsc L j from fun j hj => by
                by_cases e : j = k
                · rw [e]; exact ⟨HOK.out, fun _ => by rw [HX.out]; simp only; omega⟩
                · exact HE.out j (by omega))
              have hq' : decide (xe < (gE L (k - 1)).e) = false := decide_eq_false hq
              clear hq
              generalize (gE L (k - 1)).e = ye at *
              refine wp_region_later (by kernel_rfl) (by kernel_rfl) ?_
              repeat (go_big_quiet_step (first | (with_reducible exact Calls.later_of (J1 _).out) | (with_reducible exact Calls.later_of (J2 _).out)))
              refine wpQuiet_nil ?_
              intro _ hw'
              obtain ⟨⟨wz, hwz⟩, hw''⟩ := hw'
              subst hw''
              have HZ := Lib.hid (HQ.out.trans (hwz.mono HQ.out.size))
              clear hwz
              go_wp2_with fail
              go_roundw
              case rel => exact ⟨k + 1, by omega, by go_num, HE2, HZ⟩
              case measure => simp [intOf]; omega
          · have i1 : decide ((0 : Int) < (k : Int)) = false := by simp; omega
            have HE2 := Lib.hid (show ∀ j, j < k + 1 → entAsc L j from fun j hj => by
                by_cases e : j = k
                · rw [e]; exact ⟨HOK.out, fun h => absurd h h0⟩
                · exact HE.out j (by omega))
            clear hpr
            refine wp_region_later (by kernel_rfl) (by kernel_rfl) ?_
            repeat (go_big_quiet_step (first | (with_reducible exact Calls.later_of (J1 _).out) | (with_reducible exact Calls.later_of (J2 _).out)))
            refine wpQuiet_nil ?_
            intro _ hw'
            obtain ⟨⟨wz, hwz⟩, hw''⟩ := hw'
            subst hw''
            have HZ := Lib.hid (HQ.out.trans (hwz.mono HQ.out.size))
            clear hwz
            go_wp2_with fail
            go_roundw
            case rel => exact ⟨k + 1, by omega, by go_num, HE2, HZ⟩
            case measure => simp [intOf]; omega
    · obtain rfl : k = L.length := by omega
      by_cases h16 : L.length ≤ 16
      · have HF := Lib.hid (show decide (LOk L) = true from decide_eq_true ⟨HE.out, h16⟩)
        have h16' : decide ((L.length : Int) ≤ 16) = true := decide_eq_true (by omega)
        clear h16
        go_wp2_with fail
        go_ret
        exact ⟨by rw [HF.out]; rfl, HQ.out⟩
      · have HF := Lib.hid (not_LOk_len (l := L) (by omega))
        have h16' : decide ((L.length : Int) ≤ 16) = false := decide_eq_false (by omega)
        clear h16
        go_wp2_with fail
        go_ret
        exact ⟨by rw [HF.out]; rfl, HQ.out⟩
theorem isEpoch_c (x : Int) (w : World) : Calls Tryz.prog 66 #[.int .i64 x] w fun e w' => e = .returned (.bool (okE x)) ∧ w = w' := by
  unfold okE
  by_cases h1 : 1 ≤ x
  · by_cases h2 : x ≤ 20
    · rw [decide_eq_true (by omega : 1 ≤ x ∧ x ≤ 20)]
      have f1 : decide (1 ≤ x) = true := decide_eq_true h1
      have f2 : decide (x ≤ 20) = true := decide_eq_true h2
      clear h1 h2
      go_enter Tryz.func66, Tryz.ntmps66
      go_wp2_with fail
      go_returns
      exact ⟨rfl, rfl⟩
    · rw [decide_eq_false (by omega : ¬ (1 ≤ x ∧ x ≤ 20))]
      have f1 : decide (1 ≤ x) = true := decide_eq_true h1
      have f2 : decide (x ≤ 20) = false := decide_eq_false h2
      clear h1 h2
      go_enter Tryz.func66, Tryz.ntmps66
      go_wp2_with fail
      go_returns
      exact ⟨rfl, rfl⟩
  · rw [decide_eq_false (by omega : ¬ (1 ≤ x ∧ x ≤ 20))]
    have f1 : decide (1 ≤ x) = false := decide_eq_false h1
    clear h1
    go_enter Tryz.func66, Tryz.ntmps66
    go_wp2_with fail
    go_returns
    exact ⟨rfl, rfl⟩
set_option maxRecDepth 100000 in
set_option maxHeartbeats 4000000 in
theorem implIsLogA (a : Option Addr) (c : Nat) (L : List Ent) (w : World) (hl : L.length ≤ 2097152) (ha : AtE w a L) :
    Calls Tryz.prog 29 #[.slice a L.length c] w fun e w' => e = .returned (.bool (decide (LOk L))) ∧ Below w.heap.size w w' := by
  have HA := Lib.hid ha
  clear ha
  by_cases h16 : 16 < L.length
  · have HF := Lib.hid (not_LOk_len h16)
    have h16' : decide (16 < (L.length : Int)) = true := decide_eq_true (by omega)
    clear h16
    go_enter Tryz.func29, Tryz.ntmps29
    go_wp2_with fail
    go_ret
    exact ⟨by rw [HF.out]; rfl, Below.refl _ _⟩
  · have h16' : decide (16 < (L.length : Int)) = false := decide_eq_false (by omega)
    have H16 := Lib.hid h16
    clear h16
    go_enter Tryz.func29, Tryz.ntmps29
    go_wp2_with fail
    clear h16'
    go_loopw [10] (fun i wr => ∃ k : Nat, k ≤ L.length ∧ i = .int .i64 k ∧ Hid (∀ j, j < k → entAsc L j) ∧ Hid (Below w.heap.size w wr)) (fun i _ => L.length - (intOf i).toNat)
    case atStart => exact ⟨0, Nat.zero_le _, rfl, Lib.hid (fun j h => by omega), Lib.hid (Below.refl _ _)⟩
    case round =>
      obtain ⟨k, hk, rfl, HE, HQ⟩ := hrel
      by_cases hlt : k < L.length
      · skip
        obtain ⟨g, o, rfl, hg, hc⟩ := HA.out k hlt
        obtain ⟨c0, c1, c2, c3, c4, c5, c6⟩ := hc.below HQ.out hg
        have hpr : 0 < k → wr.cell? ⟨g, o + (k - 1) * 7, none⟩ = some (.int .i64 (gE L (k - 1)).e) := fun h0 => by
          obtain ⟨g', o', he, hg', hc'⟩ := HA.out (k - 1) (by omega)
          cases he
          exact (hc'.below HQ.out hg').c0
        obtain ⟨xe, xc, xs, xk, xo, xd, xv, hx⟩ : ∃ xe xc xs xk xo xd xv, gE L k = ⟨xe, xc, xs, xk, xo, xd, xv⟩ := ⟨_, _, _, _, _, _, _, rfl⟩
        rw [hx] at c0 c1 c2 c3 c4 c5 c6
        simp only at c0 c1 c2 c3 c4 c5 c6
        have HX := Lib.hid hx
        clear hx hc
        have hgr : g < wr.heap.size := Nat.lt_of_lt_of_le hg HQ.out.size
        have j1 := fun W => same_below (isEpoch_c xe W)
        have j2 := fun W => implIsValidOp xc xs xk xo xd xv W
        unfold opV at j2
        have J1 : ∀ W, Hid _ := fun W => Lib.hid (j1 W)
        have J2 : ∀ W, Hid _ := fun W => Lib.hid (j2 W)
        clear j1 j2
        go_wp2_with fail
        obtain ⟨wy, hwy⟩ : ∃ W, W = wr.alloc (.cells #[.int .i64 xe, .int .i64 xc, .int .i64 xs, .int .i64 xk, .int .i64 xo, .int .i64 xd, .int .i64 xv] 105) := ⟨_, rfl⟩
        rw [← hwy]
        obtain ⟨pb, hpb⟩ : ∃ p, p = wr.heap.size := ⟨_, rfl⟩
        rw [← hpb]
        have z0 : wy.cell? ⟨pb, 0, none⟩ = some (.int .i64 xe) := by rw [hwy, hpb, World.cell?_alloc_at _ _ _ _ rfl]; rfl
        have z1 : wy.cell? ⟨pb, 1, none⟩ = some (.int .i64 xc) := by rw [hwy, hpb, World.cell?_alloc_at _ _ _ _ rfl]; rfl
        have z2 : wy.cell? ⟨pb, 2, none⟩ = some (.int .i64 xs) := by rw [hwy, hpb, World.cell?_alloc_at _ _ _ _ rfl]; rfl
        have z3 : wy.cell? ⟨pb, 3, none⟩ = some (.int .i64 xk) := by rw [hwy, hpb, World.cell?_alloc_at _ _ _ _ rfl]; rfl
        have z4 : wy.cell? ⟨pb, 4, none⟩ = some (.int .i64 xo) := by rw [hwy, hpb, World.cell?_alloc_at _ _ _ _ rfl]; rfl
        have z5 : wy.cell? ⟨pb, 5, none⟩ = some (.int .i64 xd) := by rw [hwy, hpb, World.cell?_alloc_at _ _ _ _ rfl]; rfl
        have z6 : wy.cell? ⟨pb, 6, none⟩ = some (.int .i64 xv) := by rw [hwy, hpb, World.cell?_alloc_at _ _ _ _ rfl]; rfl
        have hby : Below wr.heap.size wr wy := by rw [hwy]; exact (Below.refl _ _).alloc (Nat.le_refl _) _
        have hpy : pb < wy.heap.size := by rw [hwy, hpb]; simp
        have hgy : g < wy.heap.size := Nat.lt_of_lt_of_le hgr hby.size
        have HY := Lib.hid (HQ.out.trans (hby.mono HQ.out.size))
        have q0 := LaterOf.cell (a := ⟨pb, 0, none⟩) hpy z0
        have q1 := LaterOf.cell (a := ⟨pb, 1, none⟩) hpy z1
        have q2 := LaterOf.cell (a := ⟨pb, 2, none⟩) hpy z2
        have q3 := LaterOf.cell (a := ⟨pb, 3, none⟩) hpy z3
        have q4 := LaterOf.cell (a := ⟨pb, 4, none⟩) hpy z4
        have q5 := LaterOf.cell (a := ⟨pb, 5, none⟩) hpy z5
        have q6 := LaterOf.cell (a := ⟨pb, 6, none⟩) hpy z6
        clear c0 c1 c2 c3 c4 c5 c6 z0 z1 z2 z3 z4 z5 z6 hwy hpb
        cases hE : okE xe with
        | false =>
          have HF := Lib.hid (not_LOk_bad hlt (by rw [HX.out]; simp [entOk, hE]))
          rw [hE] at J1
          clear hE hpr
          clear hby
          refine wp_region_later (by kernel_rfl) (by kernel_rfl) ?_
          repeat (go_big_quiet_step (first | (with_reducible exact Calls.later_of (J1 _).out) | (with_reducible exact Calls.later_of (J2 _).out)))
          refine wpQuiet_nil ?_
          intro _ hw'
          obtain ⟨⟨wz, hwz⟩, hw''⟩ := hw'
          subst hw''
          have HZ := Lib.hid (HY.out.trans (hwz.mono HY.out.size))
          clear hwz
          go_wp2_with fail
          go_ret
          exact ⟨by rw [HF.out]; rfl, HZ.out⟩
        | true =>
          rw [hE] at J1
          cases hO : okOp xc xs xk xo xd xv with
          | false =>
            have HF := Lib.hid (not_LOk_bad hlt (by rw [HX.out]; simp [entOk, hO]))
            rw [hO] at J2
            clear hE hO hpr
            clear hby
            refine wp_region_later (by kernel_rfl) (by kernel_rfl) ?_
            repeat (go_big_quiet_step (first | (with_reducible exact Calls.later_of (J1 _).out) | (with_reducible exact Calls.later_of (J2 _).out)))
            refine wpQuiet_nil ?_
            intro _ hw'
            obtain ⟨⟨wz, hwz⟩, hw''⟩ := hw'
            subst hw''
            have HZ := Lib.hid (HY.out.trans (hwz.mono HY.out.size))
            clear hwz
            go_wp2_with fail
            go_ret
            exact ⟨by rw [HF.out]; rfl, HZ.out⟩
          | true =>
            have HOK := Lib.hid (show entOk (gE L k) = true by rw [HX.out]; simp [entOk, hE, hO])
            rw [hO] at J2
            clear hE hO
            by_cases h0 : 0 < k
            · have pr := hpr h0
              clear hpr
              have i1 : decide ((0 : Int) < (k : Int)) = true := by simp; omega
              have i2 : IntKind.i64.wrap ((k : Int) - 1) = (k : Int) - 1 := IntWalk.i64_in _ (by omega)
              have i3 : (0 : Int) ≤ (k : Int) - 1 := by omega
              have i4 : ((k : Int) - 1).toNat = k - 1 := by omega
              have i5 : (k : Int) - 1 < (L.length : Int) := by omega
              have p0 := LaterOf.cell (a := ⟨g, o + (k - 1) * 7, none⟩) hgy ((hby.cell (p := ⟨g, o + (k - 1) * 7, none⟩) hgr).trans pr)
              by_cases hq : xe < (gE L (k - 1)).e
              · have HF := Lib.hid (not_LOk_asc hlt h0 (by rw [HX.out]; exact hq))
                have hq' : decide (xe < (gE L (k - 1)).e) = true := decide_eq_true hq
                clear hq
                generalize (gE L (k - 1)).e = ye at *
                clear hby
                refine wp_region_later (by kernel_rfl) (by kernel_rfl) ?_
                repeat (go_big_quiet_step (first | (with_reducible exact Calls.later_of (J1 _).out) | (with_reducible exact Calls.later_of (J2 _).out)))
                refine wpQuiet_nil ?_
                intro _ hw'
                obtain ⟨⟨wz, hwz⟩, hw''⟩ := hw'
                subst hw''
                have HZ := Lib.hid (HY.out.trans (hwz.mono HY.out.size))
                clear hwz
                go_wp2_with fail
                go_ret
                exact ⟨by rw [HF.out]; rfl, HZ.out⟩
              · have HE2 := Lib.hid (show ∀ j, j < k + 1 → entAsc L j from fun j hj => by
                  by_cases e : j = k
                  · rw [e]; exact ⟨HOK.out, fun _ => by rw [HX.out]; simp only; omega⟩
                  · exact HE.out j (by omega))
                have hq' : decide (xe < (gE L (k - 1)).e) = false := decide_eq_false hq
                clear hq
                generalize (gE L (k - 1)).e = ye at *
                clear hby
                refine wp_region_later (by kernel_rfl) (by kernel_rfl) ?_
                repeat (go_big_quiet_step (first | (with_reducible exact Calls.later_of (J1 _).out) | (with_reducible exact Calls.later_of (J2 _).out)))
                refine wpQuiet_nil ?_
                intro _ hw'
                obtain ⟨⟨wz, hwz⟩, hw''⟩ := hw'
                subst hw''
                have HZ := Lib.hid (HY.out.trans (hwz.mono HY.out.size))
                clear hwz
                go_wp2_with fail
                go_roundw
                case rel => exact ⟨k + 1, by omega, by go_num, HE2, HZ⟩
                case measure => simp [intOf]; omega
            · have i1 : decide ((0 : Int) < (k : Int)) = false := by simp; omega
              have HE2 := Lib.hid (show ∀ j, j < k + 1 → entAsc L j from fun j hj => by
                  by_cases e : j = k
                  · rw [e]; exact ⟨HOK.out, fun h => absurd h h0⟩
                  · exact HE.out j (by omega))
              clear hpr
              clear hby
              refine wp_region_later (by kernel_rfl) (by kernel_rfl) ?_
              repeat (go_big_quiet_step (first | (with_reducible exact Calls.later_of (J1 _).out) | (with_reducible exact Calls.later_of (J2 _).out)))
              refine wpQuiet_nil ?_
              intro _ hw'
              obtain ⟨⟨wz, hwz⟩, hw''⟩ := hw'
              subst hw''
              have HZ := Lib.hid (HY.out.trans (hwz.mono HY.out.size))
              clear hwz
              go_wp2_with fail
              go_roundw
              case rel => exact ⟨k + 1, by omega, by go_num, HE2, HZ⟩
              case measure => simp [intOf]; omega
      · obtain rfl : k = L.length := by omega
        have HF := Lib.hid (show decide (LOk L) = true from decide_eq_true ⟨HE.out, by have := H16.out; omega⟩)
        go_wp2_with fail
        go_ret
        exact ⟨by rw [HF.out]; rfl, HQ.out⟩
theorem specIsLog (b : Nat) (v : Value) (L : List Ent) (w : World) (hl : L.length ≤ 2097152) (o : OwnE b w v L) :
    Calls Tryz.prog 33 #[v] w fun e w' => e = .returned (.bool (decide (LOk L))) ∧ Below w.heap.size w w' := by
  obtain ⟨a, c, rfl, _, _, t, _⟩ := o.form
  exact specIsLogA a c L w hl t
theorem implIsLog (b : Nat) (v : Value) (L : List Ent) (w : World) (hl : L.length ≤ 2097152) (o : OwnE b w v L) :
    Calls Tryz.prog 29 #[v] w fun e w' => e = .returned (.bool (decide (LOk L))) ∧ Below w.heap.size w w' := by
  obtain ⟨a, c, rfl, _, _, t, _⟩ := o.form
  exact implIsLogA a c L w hl t
end Go.Proofs.YtpdpejlcilnafaaGreatDoor.kit
namespace Go.Proofs.YtpdpejlcilnafaaGreatDoor.kit
open Go.ChangeShapes Go.WideShapes Go.ChangeAt Go.RowKit
set_option linter.unusedVariables false
set_option linter.unusedSimpArgs false

/-- a machine with an entry's operation applied -/
def appE1 (m : List Int × List Sess) (x : Ent) : List Int × List Sess := (appO m.1 m.2 x.c x.s x.k x.o x.d x.v, appS m.1 m.2 x.c x.s x.k x.o x.d x.v)
/-- the machine behind the first k entries -/
def rep (L : List Ent) : Nat → List Int × List Sess
  | 0 => (newO, newS)
  | k + 1 => appE1 (rep L k) (gE L k)
theorem rep_len (L : List Ent) : ∀ k, (rep L k).1.length ≤ 4194304 ∧ (rep L k).2.length ≤ 4194304
  | 0 => ⟨newO_len, newS_len⟩
  | k + 1 => ⟨appO_len _ _ _ _ _ _ _ _ (rep_len L k).1, appS_len _ _ _ _ _ _ _ _ (rep_len L k).2⟩
def replayO (L : List Ent) : List Int := if LOk L then (rep L L.length).1 else []
def replayS (L : List Ent) : List Sess := if LOk L then (rep L L.length).2 else []
theorem replayO_len (L : List Ent) : (replayO L).length ≤ 4194304 := by
  unfold replayO
  split
  · exact (rep_len L _).1
  · simp
theorem replayS_len (L : List Ent) : (replayS L).length ≤ 4194304 := by
  unfold replayS
  split
  · exact (rep_len L _).2
  · simp
/-- the machine in a box: its two rows -/
structure MBox (N : Nat) (w : World) (b : Nat) (m : List Int × List Sess) where
  y1 : Option Addr
  q1 : Nat
  y2 : Option Addr
  q2 : Nat
  box : Box2 w b 30 (.slice y1 m.1.length q1) (.slice y2 m.2.length q2)
  o1 : OwnI N w (.slice y1 m.1.length q1) m.1
  o2 : OwnS N w (.slice y2 m.2.length q2) m.2
set_option maxRecDepth 100000 in
set_option maxHeartbeats 4000000 in
theorem implReplayedA (a : Option Addr) (c : Nat) (L : List Ent) (w : World) (hl : L.length ≤ 2097152) (ha : AtE w a L) :
    Calls Tryz.prog 32 #[.slice a L.length c] w fun e w' => ∃ u1 u2, e = .returned (.agg #[u1, u2]) ∧ OwnI w.heap.size w' u1 (rep L L.length).1 ∧ OwnS w.heap.size w' u2 (rep L L.length).2 ∧ Below w.heap.size w w' := by
  have HA := Lib.hid ha
  clear ha
  have HB0 := Lib.hid ((Below.refl w.heap.size w).alloc (Nat.le_refl _) (.cells #[.slice none 0 0, .slice none 0 0] 30))
  have hR := Box2.new w 30 (.slice none 0 0) (.slice none 0 0)
  have J0 := Lib.hid (implNewMachine (w.alloc (.cells #[.slice none 0 0, .slice none 0 0] 30)))
  go_enter Tryz.func32, Tryz.ntmps32
  go_wp2_with fail
  refine J0.out.mono ?_
  rintro e w1 ⟨u1, u2, rfl, ho1, ho2, hb1⟩
  obtain ⟨z1, e1, rfl⟩ := ho1.shape
  obtain ⟨z2, e2, rfl⟩ := ho2.shape
  have HR1 := Lib.hid (hR.later hb1)
  have HB1 := Lib.hid (HB0.out.trans (hb1.mono HB0.out.size))
  have hz1 := HB1.out.size
  have hrx : w.heap.size < w1.heap.size := HR1.out.lt
  have HO1 := Lib.hid (OwnI.mono ho1 (show w.heap.size ≤ _ by simp))
  have HO2 := Lib.hid (OwnS.mono ho2 (show w.heap.size ≤ _ by simp))
  clear ho1 ho2 hb1 hR J0
  go_wp2_with fail
  go_loopw [5, 9] (fun _ i wr => ∃ k : Nat, k ≤ L.length ∧ i = .int .i64 k ∧ Hid (Box2 wr w.heap.size 30 (.slice none 0 0) (.slice none 0 0)) ∧ Hid (Nonempty (MBox w.heap.size wr w1.heap.size (rep L k))) ∧ Hid (Below w.heap.size w wr)) (fun _ i _ => L.length - (intOf i).toNat)
  case atStart =>
    have hb := (Below.refl w1.heap.size w1).alloc (Nat.le_refl _) (.cells #[.slice z1 newO.length e1, .slice z2 newS.length e2] 30)
    exact ⟨0, Nat.zero_le _, rfl, Lib.hid (HR1.out.later hb), Lib.hid ⟨⟨z1, e1, z2, e2, Box2.new _ _ _ _, HO1.out.later hb, HO2.out.later hb⟩⟩, Lib.hid (HB1.out.trans (hb.mono hz1))⟩
  case round =>
    obtain ⟨k, hk, rfl, HRr, HM, HQ⟩ := hrel
    obtain ⟨⟨z1, e1, z2, e2, hX, hoI, hoS⟩⟩ := HM.out
    have HXX := Lib.hid hX
    have HOI := Lib.hid hoI
    have HOS := Lib.hid hoS
    have hxl := hX.lt
    clear hoI hoS HM
    by_cases hlt : k < L.length
    · skip
      obtain ⟨g, o, rfl, hg, hc⟩ := HA.out k hlt
      obtain ⟨c0, c1, c2, c3, c4, c5, c6⟩ := hc.below HQ.out hg
      obtain ⟨xe, xc, xs, xk, xo, xd, xv, hx⟩ : ∃ xe xc xs xk xo xd xv, gE L k = ⟨xe, xc, xs, xk, xo, xd, xv⟩ := ⟨_, _, _, _, _, _, _, rfl⟩
      have HR := Lib.hid (show rep L (k + 1) = appE1 (rep L k) (gE L k) from rfl)
      obtain ⟨hl1, hl2⟩ := rep_len L k
      rw [hx] at c0 c1 c2 c3 c4 c5 c6 HR
      simp only [appE1] at c0 c1 c2 c3 c4 c5 c6 HR
      clear hx hc
      generalize rep L k = m at *
      have kx0 := hX.c0
      have kx1 := hX.c1
      clear hX
      have hne : w1.heap.size ≠ wr.heap.size := by omega
      have k3 : (0 : Int) ≤ (k : Int) := by omega
      have k5 : (k : Int) < (L.length : Int) := by omega
      have hbE := (Below.refl wr.heap.size wr).alloc (Nat.le_refl _) (.cells #[.int .i64 xe, .int .i64 xc, .int .i64 xs, .int .i64 xk, .int .i64 xo, .int .i64 xd, .int .i64 xv] 105)
      have kx0' := (hbE.cell (p := ⟨w1.heap.size, 0, none⟩) hxl).trans kx0
      have kx1' := (hbE.cell (p := ⟨w1.heap.size, 1, none⟩) hxl).trans kx1
      have HBE := Lib.hid hbE
      have J := Lib.hid (implApplyOp _ _ _ _ m.1 m.2 xc xs xk xo xd xv (wr.alloc (.cells #[.int .i64 xe, .int .i64 xc, .int .i64 xs, .int .i64 xk, .int .i64 xo, .int .i64 xd, .int .i64 xv] 105)) hl1 hl2 (HOI.out.later hbE) (HOS.out.later hbE))
      clear hbE
      go_wp2_with (go_at_call 70; refine J.out.mono ?_; rintro e w2 ⟨v1, v2, rfl, hv1, hv2, hb2⟩; obtain ⟨t1, s1, rfl⟩ := hv1.shape; obtain ⟨t2, s2, rfl⟩ := hv2.shape; have hX2 := (HXX.out.later HBE.out).later hb2; have kc0 := hX2.c0; have kc1 := hX2.c1; have kf0 := hX2.f 0; have kf1 := hX2.f 1)
      go_roundw
      case rel =>
        have hQ2 := HQ.out.trans ((HBE.out.trans (hb2.mono HBE.out.size)).mono HQ.out.size)
        have hz := HQ.out.size
        refine ⟨k + 1, by omega, by go_num, Lib.hid (Box2.keep ((HRr.out.later HBE.out).later hb2) (by omega) _ _), Lib.hid ⟨?_⟩, Lib.hid (below_set2 hQ2 (by omega) _ _)⟩
        rw [HR.out]
        exact ⟨t1, s1, t2, s2, hX2.set _ _, row_set2 (OwnI.mono hv1 (by simp; omega)) hX2 (by decide) _ _, row_set2 (OwnS.mono hv2 (by simp; omega)) hX2 (by decide) _ _⟩
      case measure => simp [intOf]; omega
    · obtain rfl : k = L.length := by omega
      have kx0 := hX.c0
      have kx1 := hX.c1
      have kr0 := HRr.out.c0
      have kr1 := HRr.out.c1
      have krf0 := HRr.out.f 0
      have krf1 := HRr.out.f 1
      clear hX hlt hk
      generalize hm : rep L L.length = m at *
      have HMM := Lib.hid hm
      clear hm
      go_wp2_with fail
      refine bodyPost_ret (v := .agg #[.slice z1 m.1.length e1, .slice z2 m.2.length e2]) (by simp [results, Tryz.results32, go_sem, kr0, kr1]) rfl ?_
      exact ⟨_, _, rfl, by rw [HMM.out]; exact row_set2 HOI.out HRr.out (by decide) _ _, by rw [HMM.out]; exact row_set2 HOS.out HRr.out (by decide) _ _, below_set2 HQ.out (Nat.le_refl _) _ _⟩
set_option maxRecDepth 100000 in
set_option maxHeartbeats 8000000 in
theorem specReplayLogA (a : Option Addr) (c : Nat) (L : List Ent) (w : World) (hl : L.length ≤ 2097152) (ha : AtE w a L) :
    Calls Tryz.prog 35 #[.slice a L.length c] w fun e w' => ∃ u1 u2, e = .returned (.tuple #[.agg #[u1, u2], .bool (decide (LOk L))]) ∧ OwnI w.heap.size w' u1 (replayO L) ∧ OwnS w.heap.size w' u2 (replayS L) ∧ Below w.heap.size w w' := by
  have HA := Lib.hid ha
  clear ha
  have HB0 := Lib.hid ((Below.refl w.heap.size w).alloc (Nat.le_refl _) (.cells #[.slice none 0 0, .slice none 0 0] 30))
  have hR := Box2.new w 30 (.slice none 0 0) (.slice none 0 0)
  have J0 := Lib.hid (specNewMachine (w.alloc (.cells #[.slice none 0 0, .slice none 0 0] 30)))
  by_cases he : LOk L
  · have HF1 := Lib.hid (show replayO L = (rep L L.length).1 by unfold replayO; rw [if_pos he])
    have HF2 := Lib.hid (show replayS L = (rep L L.length).2 by unfold replayS; rw [if_pos he])
    have HD := Lib.hid (decide_eq_true he)
    clear he
    go_enter Tryz.func35, Tryz.ntmps35
    go_wp2_with fail
    refine J0.out.mono ?_
    rintro e w1 ⟨u1, u2, rfl, ho1, ho2, hb1⟩
    obtain ⟨z1, e1, rfl⟩ := ho1.shape
    obtain ⟨z2, e2, rfl⟩ := ho2.shape
    have HR1 := Lib.hid (hR.later hb1)
    have HB1 := Lib.hid (HB0.out.trans (hb1.mono HB0.out.size))
    have hz1 := HB1.out.size
    have HO1 := Lib.hid (OwnI.mono ho1 (show w.heap.size ≤ _ by simp))
    have HO2 := Lib.hid (OwnS.mono ho2 (show w.heap.size ≤ _ by simp))
    clear ho1 ho2 hb1 hR J0
    have hb := (Below.refl w1.heap.size w1).alloc (Nat.le_refl _) (.cells #[.slice z1 newO.length e1, .slice z2 newS.length e2] 30)
    have HBX := Lib.hid hb
    have HBY := Lib.hid (HB1.out.trans (hb.mono hz1))
    have hX := Box2.new w1 30 (.slice z1 newO.length e1) (.slice z2 newS.length e2)
    have hr : w.heap.size < w1.heap.size := HR1.out.lt
    have C1 := Lib.hid (specIsLogA a c L (w1.alloc (.cells #[.slice z1 newO.length e1, .slice z2 newS.length e2] 30)) hl (HA.out.later HBY.out))
    clear hb
    rw [HD.out] at C1
    go_wp2_with fail
    refine C1.out.mono ?_
    rintro e w2 ⟨rfl, hb2⟩
    have HR2 := Lib.hid ((HR1.out.later HBX.out).later hb2)
    have HX2 := Lib.hid (hX.later hb2)
    have HB2 := Lib.hid (HBY.out.trans (hb2.mono HBY.out.size))
    have HP1 := Lib.hid ((HO1.out.later HBX.out).later hb2)
    have HP2 := Lib.hid ((HO2.out.later HBX.out).later hb2)
    clear hb2 hX C1
    go_wp2_with fail
    go_loopw [5] (fun i wr => ∃ k : Nat, k ≤ L.length ∧ i = .int .i64 k ∧ Hid (Box2 wr w.heap.size 30 (.slice none 0 0) (.slice none 0 0)) ∧ Hid (Nonempty (MBox w.heap.size wr w1.heap.size (rep L k))) ∧ Hid (Below w.heap.size w wr)) (fun i _ => L.length - (intOf i).toNat)
    case atStart => exact ⟨0, Nat.zero_le _, rfl, HR2, Lib.hid ⟨⟨z1, e1, z2, e2, HX2.out, HP1.out, HP2.out⟩⟩, HB2⟩
    case round =>
      obtain ⟨k, hk, rfl, HRr, HM, HQ⟩ := hrel
      clear HX2 HP1 HP2 HR2 HB2 HO1 HO2 HBX HBY
      obtain ⟨⟨z1, e1, z2, e2, hX, hoI, hoS⟩⟩ := HM.out
      have HXX := Lib.hid hX
      have HOI := Lib.hid hoI
      have HOS := Lib.hid hoS
      have hxl := hX.lt
      clear hoI hoS HM
      by_cases hlt : k < L.length
      · skip
        obtain ⟨g, o, rfl, hg, hc⟩ := HA.out k hlt
        obtain ⟨c0, c1, c2, c3, c4, c5, c6⟩ := hc.below HQ.out hg
        obtain ⟨xe, xc, xs, xk, xo, xd, xv, hx⟩ : ∃ xe xc xs xk xo xd xv, gE L k = ⟨xe, xc, xs, xk, xo, xd, xv⟩ := ⟨_, _, _, _, _, _, _, rfl⟩
        have HR := Lib.hid (show rep L (k + 1) = appE1 (rep L k) (gE L k) from rfl)
        obtain ⟨hl1, hl2⟩ := rep_len L k
        rw [hx] at c0 c1 c2 c3 c4 c5 c6 HR
        simp only [appE1] at c0 c1 c2 c3 c4 c5 c6 HR
        clear hx hc
        generalize rep L k = m at *
        have kx0 := hX.c0
        have kx1 := hX.c1
        clear hX
        have k3 : (0 : Int) ≤ (k : Int) := by omega
        have k5 : (k : Int) < (L.length : Int) := by omega
        have hbD : Below wr.heap.size wr wr.drew := (Below.refl _ _).drew
        have HBD := Lib.hid hbD
        have J := Lib.hid (specApplyOp _ _ _ _ m.1 m.2 xc xs xk xo xd xv wr.drew hl1 hl2 (HOI.out.later hbD) (HOS.out.later hbD))
        clear hbD
        go_wp2_with fail
        go_region_with (go_at_call 73; (with_reducible refine J.out.mono ?_); rintro e w2 ⟨v1, v2, rfl, hv1, hv2, hb2⟩; obtain ⟨t1, s1, rfl⟩ := hv1.shape; obtain ⟨t2, s2, rfl⟩ := hv2.shape; have hX2 := (HXX.out.later HBD.out).later hb2; have kc0 := hX2.c0; have kc1 := hX2.c1; have kf0 := hX2.f 0; have kf1 := hX2.f 1)
        all_goals
          clear c0 c1 c2 c3 c4 c5 c6 kx0 kx1
          go_wp2_with fail
          go_roundw
          case rel =>
            have hQ2 := HQ.out.trans ((HBD.out.trans (hb2.mono HBD.out.size)).mono HQ.out.size)
            have hz := HQ.out.size
            refine ⟨k + 1, by omega, by go_num, Lib.hid (Box2.keep ((HRr.out.later HBD.out).later hb2) (by omega) _ _), Lib.hid ⟨?_⟩, Lib.hid (below_set2 hQ2 (by omega) _ _)⟩
            rw [HR.out]
            exact ⟨t1, s1, t2, s2, hX2.set _ _, row_set2 (OwnI.mono hv1 (by simp; omega)) hX2 (by decide) _ _, row_set2 (OwnS.mono hv2 (by simp; omega)) hX2 (by decide) _ _⟩
          case measure => simp [intOf]; omega
      · obtain rfl : k = L.length := by omega
        have kx0 := hX.c0
        have kx1 := hX.c1
        have kr0 := HRr.out.c0
        have kr1 := HRr.out.c1
        have krf0 := HRr.out.f 0
        have krf1 := HRr.out.f 1
        clear hX hlt hk
        generalize hm : rep L L.length = m at *
        have HMM := Lib.hid hm
        clear hm
        go_wp2_with fail
        refine bodyPost_ret (v := .tuple #[.agg #[.slice z1 m.1.length e1, .slice z2 m.2.length e2], .bool true]) (by simp [results, Tryz.results35, go_sem, kr0, kr1]) rfl ?_
        exact ⟨_, _, by rw [HD.out], by rw [HF1.out]; exact row_set2 HOI.out HRr.out (by decide) _ _, by rw [HF2.out]; exact row_set2 HOS.out HRr.out (by decide) _ _, below_set2 HQ.out (Nat.le_refl _) _ _⟩
  · have HF1 := Lib.hid (show replayO L = [] by unfold replayO; rw [if_neg he])
    have HF2 := Lib.hid (show replayS L = [] by unfold replayS; rw [if_neg he])
    have HD := Lib.hid (decide_eq_false he)
    clear he
    go_enter Tryz.func35, Tryz.ntmps35
    go_wp2_with fail
    refine J0.out.mono ?_
    rintro e w1 ⟨u1, u2, rfl, ho1, ho2, hb1⟩
    obtain ⟨z1, e1, rfl⟩ := ho1.shape
    obtain ⟨z2, e2, rfl⟩ := ho2.shape
    have HR1 := Lib.hid (hR.later hb1)
    have HB1 := Lib.hid (HB0.out.trans (hb1.mono HB0.out.size))
    have hz1 := HB1.out.size
    have HO1 := Lib.hid (OwnI.mono ho1 (show w.heap.size ≤ _ by simp))
    have HO2 := Lib.hid (OwnS.mono ho2 (show w.heap.size ≤ _ by simp))
    clear ho1 ho2 hb1 hR J0
    have hb := (Below.refl w1.heap.size w1).alloc (Nat.le_refl _) (.cells #[.slice z1 newO.length e1, .slice z2 newS.length e2] 30)
    have HBX := Lib.hid hb
    have HBY := Lib.hid (HB1.out.trans (hb.mono hz1))
    have hX := Box2.new w1 30 (.slice z1 newO.length e1) (.slice z2 newS.length e2)
    have hr : w.heap.size < w1.heap.size := HR1.out.lt
    have C1 := Lib.hid (specIsLogA a c L (w1.alloc (.cells #[.slice z1 newO.length e1, .slice z2 newS.length e2] 30)) hl (HA.out.later HBY.out))
    clear hb
    rw [HD.out] at C1
    go_wp2_with fail
    refine C1.out.mono ?_
    rintro e w2 ⟨rfl, hb2⟩
    have HR2 := Lib.hid ((HR1.out.later HBX.out).later hb2)
    have HX2 := Lib.hid (hX.later hb2)
    have HB2 := Lib.hid (HBY.out.trans (hb2.mono HBY.out.size))
    have HP1 := Lib.hid ((HO1.out.later HBX.out).later hb2)
    have HP2 := Lib.hid ((HO2.out.later HBX.out).later hb2)
    clear hb2 hX C1
    have kr0 := HR2.out.c0
    have kr1 := HR2.out.c1
    have krf0 := HR2.out.f 0
    have krf1 := HR2.out.f 1
    go_wp2_with fail
    refine bodyPost_ret (v := .tuple #[.agg #[.slice none 0 0, .slice none 0 0], .bool false]) (by simp [results, Tryz.results35, go_sem, kr0, kr1]) rfl ?_
    exact ⟨_, _, by rw [HD.out], by rw [HF1.out]; exact World.ownsRow_nil _ _ _ _, by rw [HF2.out]; exact own_newS _ _, below_set2 HB2.out (Nat.le_refl _) _ _⟩
theorem specReplayLog (b : Nat) (v : Value) (L : List Ent) (w : World) (h : L.length ≤ 2097152) (o : OwnE b w v L) :
    Calls Tryz.prog 35 #[v] w fun e w' => ∃ u1 u2, e = .returned (.tuple #[.agg #[u1, u2], .bool (decide (LOk L))]) ∧ OwnI w.heap.size w' u1 (replayO L) ∧ OwnS w.heap.size w' u2 (replayS L) ∧ Below w.heap.size w w' := by
  obtain ⟨a, c, rfl, _, _, at1, _⟩ := o.form
  exact specReplayLogA a c L w h at1
end Go.Proofs.YtpdpejlcilnafaaGreatDoor.kit
namespace Go.Proofs.YtpdpejlcilnafaaGreatDoor.kit
open Go.ChangeShapes Go.WideShapes Go.ChangeAt Go.RowKit
set_option linter.unusedVariables false

/-- the slice value sv reads as the list l, below block B -/
def SrcE (B : Nat) (w : World) (sv : Value) (l : List Ent) : Prop :=
  (sv = .slice none 0 0 ∧ l = []) ∨ ∃ g o c, sv = .slice (some ⟨g, o, none⟩) l.length c ∧ g < B ∧ ∀ j, j < l.length → EntAt w g (o + j * 7) (gE l j)
theorem SrcE.below {B B' : Nat} {w w' : World} {sv : Value} {l : List Ent} (h : SrcE B w sv l) (hb : Below B' w w') (hB : B ≤ B') : SrcE B w' sv l := by
  rcases h with h | ⟨g, o, c, h1, h2, h3⟩
  · exact .inl h
  · exact .inr ⟨g, o, c, h1, h2, fun j hj => (h3 j hj).below hb (Nat.lt_of_lt_of_le h2 hB)⟩
theorem SrcE.own {b : Nat} {w : World} {v : Value} {l : List Ent} (h : OwnE b w v l) : SrcE w.heap.size w v l := by
  rcases h.2 with ⟨rfl, h0⟩ | ⟨g, c, cur, rfl, hg, hh, hn, hm, hr⟩
  · exact .inl ⟨rfl, List.eq_nil_of_length_eq_zero h0⟩
  · exact .inr ⟨g, 0, c, rfl, (Array.getElem?_eq_some_iff.1 hh).1, fun j hj => by rw [Nat.zero_add]; exact h.at j hj⟩
theorem SrcE.lit (w : World) (e : Int) (c : Int) (s : Int) (k : Int) (o : Int) (d : Int) (v : Int) : SrcE (w.heap.size + 1) (w.alloc (.cells #[.int .i64 e, .int .i64 c, .int .i64 s, .int .i64 k, .int .i64 o, .int .i64 d, .int .i64 v] 105)) (.slice (some ⟨w.heap.size, 0, none⟩) 1 1) [⟨e, c, s, k, o, d, v⟩] := by
  refine .inr ⟨w.heap.size, 0, 1, rfl, by omega, fun j hj => ?_⟩
  obtain rfl : j = 0 := by simpa using hj
  exact entAt_of (fun k hk => by rw [World.cell?_alloc_at _ _ _ _ rfl]; match k, hk with | 0, _ => rfl | 1, _ => rfl | 2, _ => rfl | 3, _ => rfl | 4, _ => rfl | 5, _ => rfl | 6, _ => rfl)
theorem SrcE.cell {w : World} {g o : Nat} {l : List Ent} (h : ∀ j, j < l.length → EntAt w g (o + j * 7) (gE l j)) (j : Nat) (u : Value) (hu : (cellsE l)[j]? = some u) : w.cell? ((⟨g, o, none⟩ : Addr).add j) = some u := by
  have hj : j < l.length * 7 := by have := (List.getElem?_eq_some_iff.1 hu).1; rwa [cellsE_len] at this
  have e : j = j / 7 * 7 + j % 7 := by omega
  have h1 := cellsE_at l (j / 7) (by omega) (j % 7) (by omega)
  rw [← e, hu] at h1
  have h2 := h (j / 7) (by omega)
  rw [add_mk]
  have e2 : o + j = o + j / 7 * 7 + j % 7 := by omega
  rw [e2]
  have h4 : j % 7 < 7 := by omega
  generalize j % 7 = k at h1 h4 ⊢
  match k, h4 with
  | 0, _ => exact h2.c0.trans h1.symm
  | 1, _ => exact h2.c1.trans h1.symm
  | 2, _ => exact h2.c2.trans h1.symm
  | 3, _ => exact h2.c3.trans h1.symm
  | 4, _ => exact h2.c4.trans h1.symm
  | 5, _ => exact h2.c5.trans h1.symm
  | 6, _ => exact h2.c6.trans h1.symm
theorem cellsE_one (l : List Ent) : ∀ u ∈ cellsE l, u.oneCell' = true := by
  intro u hu
  obtain ⟨x, _, hx⟩ := List.mem_flatMap.1 hu
  simp only [entC, List.mem_cons, List.not_mem_nil, or_false] at hx
  rcases hx with rfl | rfl | rfl | rfl | rfl | rfl | rfl <;> rfl
/-- append onto a row of the call's own, the source nil, empty or not -/
theorem wp_appE {t : TypeId} (ht : Tryz.prog.underlying t = some (.slice 105)) {w : World} {o : Oper} {a : Act} {K : Act → World → Prop} {Q : Exit → Act → World → Prop} (s x : Operand)
    (ho : o.op = .call { callee := .builtin .append, args := #[s, x], argTypes := #[t, t] })
    (base : Nat) (v : Value) (l0 : List Ent) (hs : a.eval s = v) (hown : OwnE base w v l0) (B : Nat) (sv : Value) (l : List Ent) (hx : a.eval x = sv) (hsrc : SrcE B w sv l)
    (hlen : l0.length + l.length ≤ 100000000000) (hbase : base ≤ w.heap.size)
    (h : ∀ v' w', OwnE base w' v' (l0 ++ l) → Below base w w' → w.grownBy w' v.ownBlock → K (a.put o.dst v') w') : o.wp Tryz.prog a w K Q := by
  obtain ⟨i0, hi, hz0, hz1, hz2⟩ := info_parts infoE
  rcases hsrc with ⟨rfl, rfl⟩ | ⟨g, of, c, rfl, _, hc⟩
  · have hrun := run_append_owned_none (P := Tryz.prog) (w := w) base t o.type 105 i0 7 ht hi v l0.length _ hown.row
    unfold Oper.wp execOp
    simp only [ho, resolve, invoke, builtin, Sem.run_bind, Sem.run_pure, Result.andThen_ok, List.map_toArray, List.map_cons, List.map_nil, hs, hx, hrun]
    exact h v w (by rw [List.append_nil]; exact hown) (Below.refl _ _) (World.grownBy.refl _ _)
  · refine wp_append_own w s x t ho base 105 i0 _ 7 56 ht hi hz0 hz1 hz2 rfl (by omega) v l0.length _ hs hown.row ⟨g, of, none⟩ l.length c (cellsE l) hx (by rw [cellsE_len]) ?_ (cellsE_one l) (by unfold maxLen; omega) (by omega) hbase ?_
    · exact fun j u hu => SrcE.cell hc j u hu
    · intro v' w' h1 h2 _
      refine h v' w' (OwnE.of h1 (by rw [cellsE_app])) ((Below.refl base w).grown h2 hbase (fun k hk => (hown.row.lt k hk).1)) h2
theorem wpList_appE {t : TypeId} (ht : Tryz.prog.underlying t = some (.slice 105)) {w : World} {ops : Array Oper} {rest : List Oper} {o : Oper} {a : Act} {Q : Exit → Act → World → Prop} (hgd : o.guard = none) (s x : Operand)
    (ho : o.op = .call { callee := .builtin .append, args := #[s, x], argTypes := #[t, t] })
    (base : Nat) (v : Value) (l0 : List Ent) (hs : a.eval s = v) (hown : OwnE base w v l0) (B : Nat) (sv : Value) (l : List Ent) (hx : a.eval x = sv) (hsrc : SrcE B w sv l)
    (hlen : l0.length + l.length ≤ 100000000000) (hbase : base ≤ w.heap.size)
    (h : ∀ v' w', OwnE base w' v' (l0 ++ l) → Below base w w' → w.grownBy w' v.ownBlock → wpList Tryz.prog ops Q rest (a.put o.dst v') w') : wpList Tryz.prog ops Q (o :: rest) a w :=
  wpList_plain hgd fun _ hK => wp_appE ht s x ho base v l0 hs hown B sv l hx hsrc hlen hbase fun v' w' h2 h3 h4 => hK _ _ (h v' w' h2 h3 h4)
theorem step_appE {t : TypeId} (ht : Tryz.prog.underlying t = some (.slice 105)) {w : World} {ops : Array Oper} {o : Oper} {a : Act} {K : Act → World → Prop} {Q : Exit → Act → World → Prop} {E : Prop} (hgd : o.guard = none) (s x : Operand)
    (ho : o.op = .call { callee := .builtin .append, args := #[s, x], argTypes := #[t, t] })
    (base : Nat) (v : Value) (l0 : List Ent) (hs : a.eval s = v) (hown : OwnE base w v l0) (B : Nat) (sv : Value) (l : List Ent) (hx : a.eval x = sv) (hsrc : SrcE B w sv l)
    (hlen : l0.length + l.length ≤ 100000000000) (hbase : base ≤ w.heap.size)
    (h : ∀ v' w', OwnE base w' v' (l0 ++ l) → Below base w w' → w.grownBy w' v.ownBlock → K (a.put o.dst v') w') :
    if Region.wanted o (yielded ops a.tmps) = true then Oper.wp Tryz.prog o a w K Q else E := by
  rw [if_pos (by simp [Region.wanted, hgd])]
  exact wp_appE ht s x ho base v l0 hs hown B sv l hx hsrc hlen hbase h
/-- append onto a slice that has no room: a new row -/
theorem step_growE {t : TypeId} (ht : Tryz.prog.underlying t = some (.slice 105)) {w : World} {ops : Array Oper} {o : Oper} {a : Act} {K : Act → World → Prop} {Q : Exit → Act → World → Prop} {E : Prop} (hgd : o.guard = none) (s x : Operand)
    (ho : o.op = .call { callee := .builtin .append, args := #[s, x], argTypes := #[t, t] })
    (ao : Option Addr) (l0 : List Ent) (hs : a.eval s = .slice ao l0.length l0.length) (hat : AtE w ao l0) (hnone : ao = none → l0 = []) (B : Nat) (sv : Value) (y : Ent) (hx : a.eval x = sv) (hsrc : SrcE B w sv [y])
    (hlen : l0.length ≤ 10000000000)
    (h : ∀ v' w', OwnE w.heap.size w' v' (l0 ++ [y]) → Below w.heap.size w w' → K (a.put o.dst v') w') :
    if Region.wanted o (yielded ops a.tmps) = true then Oper.wp Tryz.prog o a w K Q else E := by
  obtain ⟨i0, hi, hz0, hz1, hz2⟩ := info_parts infoE
  rcases hsrc with ⟨_, h0⟩ | ⟨g, of, c, rfl, _, hc⟩
  · cases h0
  · refine step_append_grows hgd s x t ho 105 i0 _ 7 56 ht hi hz0 hz1 hz2 rfl (by omega) ao l0.length l0.length (cellsE l0) hs (fun h => by have := hnone h; subst this; exact ⟨rfl, rfl⟩) (by rw [cellsE_len]) ?_ ⟨g, of, none⟩ 1 c (cellsE [y]) hx (by rw [cellsE_len]; rfl) ?_ (cellsE_one _) (by omega) (by unfold maxLen; omega) (by omega) ?_
    · intro b hb j u hu
      by_cases h0 : 0 < l0.length
      · obtain ⟨g', o', hx', _, _⟩ := hat 0 h0
        have hall : ∀ j, j < l0.length → EntAt w g' (o' + j * 7) (gE l0 j) := fun j hj => by
          obtain ⟨g2, o2, e2, _, h2⟩ := hat j hj
          rw [hx'] at e2
          cases e2
          exact h2
        rw [hx'] at hb
        cases hb
        exact SrcE.cell hall j u hu
      · have : l0 = [] := List.eq_nil_of_length_eq_zero (by omega)
        subst this
        simp [cellsE] at hu
    · exact fun j u hu => SrcE.cell hc j u hu
    · intro v' w' h1 h2
      exact h v' w' (OwnE.of h1 (by rw [cellsE_app])) ⟨h2.os, h2.tape, h2.output, h2.size, fun k hk => h2.block k hk (by simp)⟩
end Go.Proofs.YtpdpejlcilnafaaGreatDoor.kit
namespace Go.Proofs.YtpdpejlcilnafaaGreatDoor.kit
open Go.ChangeShapes Go.WideShapes Go.ChangeAt Go.RowKit
set_option linter.unusedVariables false

set_option maxRecDepth 100000 in
theorem beforeE (a : Option Addr) (n c k : Nat) (w : World) (hk : k ≤ n) (hn : n ≤ c) (hc : c ≤ maxLen) :
    Calls Tryz.prog 30 #[.slice a n c, .int .i64 (k : Int)] w fun e w' => e = .returned (sliced a 0 k k 7) ∧ w = w' := by
  unfold maxLen at hc
  have R1 : ∀ W, (Instr.slice 58 (.slice a n c) none (some (.int .i64 (k : Int))) (some (.int .i64 (k : Int)))).run Tryz.prog W = .ok (sliced a 0 k k 7) W := fun W => by
    rw [run_slice_hm (P := Tryz.prog) W 58 a n c (by kernel_rfl) .i64 .i64 (k : Int) (k : Int) (by omega) (by omega) (by omega)]
    have hs : (sizeOf (Tryz.prog.elem 58)).run Tryz.prog W = .ok 7 W := by kernel_rfl
    rw [hs]
    rfl
  generalize sliced a 0 k k 7 = sv at *
  go_enter Tryz.func30, Tryz.ntmps30
  go_wp2_with fail
  go_ret
  exact ⟨rfl, rfl⟩
theorem before_at {w : World} {a : Option Addr} {c : Nat} {L : List Ent} (h : AtE w a L) (k : Nat) (hk : k ≤ L.length) (h0 : a = none → c = 0 ∧ L = []) : ∃ a', sliced a 0 k k 7 = .slice a' k k ∧ AtE w a' (L.take k) ∧ (a' = none → L.take k = []) := by
  cases a with
  | none =>
    obtain ⟨_, rfl⟩ := h0 rfl
    have : k = 0 := by simpa using hk
    subst this
    exact ⟨none, rfl, AtE.nil _ _, fun _ => rfl⟩
  | some p =>
    by_cases hk0 : k = 0
    · subst hk0
      exact ⟨some p, by simp [sliced], by simpa using AtE.nil w (some p), fun h => by cases h⟩
    · refine ⟨some p, ?_, h.take k, fun h => by cases h⟩
      unfold sliced
      rw [if_neg hk0, Option.map_some, Nat.zero_mul, add_zero', Nat.sub_zero]
section
variable {P : Program}
/-- copy into a row, elements of whatever size -/
theorem run_copy_rowN (w : World) (dT sT ty elem : TypeId) (g o dLen dCap : Nat) (a : Addr) (sLen sCap sz : Nat) (cur : Array Value) (t : TypeId) (cs : List Value)
    (hu : P.underlying dT = some (.slice elem)) (hs : (P.info? elem).map (·.size) = some sz)
    (hg : w.heap[g]? = some (.cells cur t (0, 0))) (hn : cs.length = Nat.min sLen dLen * sz)
    (hsrc : ∀ j v, cs[j]? = some v → w.cell? (a.add j) = some v) (hfit : o + cs.length ≤ cur.size) (h1 : ∀ v ∈ cs, v.oneCell' = true) :
    (Builtin.copy_ #[dT, sT] ty #[.slice (some ⟨g, o, none⟩) dLen dCap, .slice (some a) sLen sCap]).run P w =
      .ok (goInt (Nat.min sLen dLen)) (w.setRow g (cur.toList.take o ++ cs ++ cur.toList.drop (o + cs.length)).toArray) := by
  have hl := run_loadCells_list (P := P) w a cs hsrc
  have hst := run_storeCells_at P g o t cs 0 cur w hg (by simpa using hfit) h1
  cases hq : P.info? elem with
  | none => simp [hq] at hs
  | some i =>
    have hi : i.size = sz := by simpa [hq] using hs
    simp [Builtin.copy_, run_underlying hu, Builtin.lenOf, Builtin.firstCells, sizeOf, typeInfo, hq, hi, ← hn, hl, hst]
end
theorem wpList_copyE {dT sT : TypeId} (hu : Tryz.prog.underlying dT = some (.slice 105)) {w : World} {ops : Array Oper} {rest : List Oper} {o : Oper} {a : Act} {Q : Exit → Act → World → Prop} (hgd : o.guard = none) (d s : Operand)
    (ho : o.op = .call { callee := .builtin .copy, args := #[d, s], argTypes := #[dT, sT] }) (g : Nat) (L : List Ent) (B : Nat) (sv : Value) (hd : a.eval d = .slice (some ⟨g, 0, none⟩) L.length L.length) (hs : a.eval s = sv) (hsrc : SrcE B w sv L)
    (cur : Array Value) (hg : w.heap[g]? = some (.cells cur 105 (0, 0))) (hc : cur.size = L.length * 7) (hm : L.length ≤ maxLen) (base : Nat) (hb : base ≤ g)
    (h : ∀ w', OwnE base w' (.slice (some ⟨g, 0, none⟩) L.length L.length) L → Below base w w' → wpList Tryz.prog ops Q rest (a.put o.dst (goInt L.length)) w') : wpList Tryz.prog ops Q (o :: rest) a w := by
  refine wpList_plain hgd fun K hK => ?_
  have hsz : (Tryz.prog.info? 105).map (·.size) = some 7 := by kernel_rfl
  rcases hsrc with ⟨rfl, rfl⟩ | ⟨g', of, c, rfl, _, hc'⟩
  · have hrun := run_copy_nil (P := Tryz.prog) w dT sT o.type 105 ⟨g, 0, none⟩ 0 0 hu (by rw [hsz]; rfl)
    unfold Oper.wp
    simp [execOp, ho, resolve, invoke, builtin, hd, hs, hrun, Result.andThen]
    refine hK _ _ (h w ⟨rfl, .inr ⟨g, 0, cur, rfl, hb, hg, Nat.le_refl _, Nat.zero_le _, by simpa using hc, by simp [cellsE]⟩⟩ (Below.refl _ _))
  · have hmin : Nat.min L.length L.length = L.length := Nat.min_self _
    have hrun := run_copy_rowN (P := Tryz.prog) w dT sT o.type 105 g 0 L.length L.length ⟨g', of, none⟩ L.length c 7 cur 105 (cellsE L) hu hsz hg (by rw [hmin, cellsE_len]) (fun j u hu' => SrcE.cell hc' j u hu') (by rw [cellsE_len, hc]; omega) (cellsE_one L)
    rw [hmin] at hrun
    unfold Oper.wp
    simp only [execOp, ho, resolve, invoke, builtin, Sem.run_bind, Sem.run_pure, Result.andThen_ok, List.map_toArray, List.map_cons, List.map_nil, hd, hs, hrun]
    have hlen : (List.take 0 cur.toList ++ cellsE L ++ List.drop (0 + (cellsE L).length) cur.toList) = cellsE L := by
      rw [List.drop_of_length_le (by rw [cellsE_len]; simp [hc])]; simp
    have hrow : (w.setRow g (List.take 0 cur.toList ++ cellsE L ++ List.drop (0 + (cellsE L).length) cur.toList).toArray).heap[g]? = some (.cells (cellsE L).toArray 105 (0, 0)) := by
      rw [hlen]; exact setRow_heap w g _ _ _ _ hg
    refine hK _ _ (h _ ⟨by rw [cellsE_len], .inr ⟨g, L.length, (cellsE L).toArray, rfl, hb, hrow, Nat.le_refl _, hm, by simp [cellsE_len], List.take_of_length_le (by rw [cellsE_len]; exact Nat.le_refl _)⟩⟩ ?_)
    exact ⟨rfl, rfl, rfl, by simp [World.setRow], fun k hk => setRow_other w g k _ (by omega)⟩
theorem keep7 {a0 a1 a2 a3 a4 a5 a6 : Addr} {x0 x1 x2 x3 x4 x5 x6 : Value} {W W' : World} (h : W.cell? a0 = some x0 ∧ W.cell? a1 = some x1 ∧ W.cell? a2 = some x2 ∧ W.cell? a3 = some x3 ∧ W.cell? a4 = some x4 ∧ W.cell? a5 = some x5 ∧ W.cell? a6 = some x6) (hb : Below W.heap.size W W') : W'.cell? a0 = some x0 ∧ W'.cell? a1 = some x1 ∧ W'.cell? a2 = some x2 ∧ W'.cell? a3 = some x3 ∧ W'.cell? a4 = some x4 ∧ W'.cell? a5 = some x5 ∧ W'.cell? a6 = some x6 := by
  obtain ⟨h0, h1, h2, h3, h4, h5, h6⟩ := h
  exact ⟨(hb.cell (World.block_lt_of_cell? W _ h0)).trans h0, (hb.cell (World.block_lt_of_cell? W _ h1)).trans h1, (hb.cell (World.block_lt_of_cell? W _ h2)).trans h2, (hb.cell (World.block_lt_of_cell? W _ h3)).trans h3, (hb.cell (World.block_lt_of_cell? W _ h4)).trans h4, (hb.cell (World.block_lt_of_cell? W _ h5)).trans h5, (hb.cell (World.block_lt_of_cell? W _ h6)).trans h6⟩
theorem keep7n {B N : Nat} {x0 x1 x2 x3 x4 x5 x6 : Value} {W W' : World} (h : W.cell? ⟨B, 0, none⟩ = some x0 ∧ W.cell? ⟨B, 1, none⟩ = some x1 ∧ W.cell? ⟨B, 2, none⟩ = some x2 ∧ W.cell? ⟨B, 3, none⟩ = some x3 ∧ W.cell? ⟨B, 4, none⟩ = some x4 ∧ W.cell? ⟨B, 5, none⟩ = some x5 ∧ W.cell? ⟨B, 6, none⟩ = some x6) (hb : Below N W W') (hn : B < N) : W'.cell? ⟨B, 0, none⟩ = some x0 ∧ W'.cell? ⟨B, 1, none⟩ = some x1 ∧ W'.cell? ⟨B, 2, none⟩ = some x2 ∧ W'.cell? ⟨B, 3, none⟩ = some x3 ∧ W'.cell? ⟨B, 4, none⟩ = some x4 ∧ W'.cell? ⟨B, 5, none⟩ = some x5 ∧ W'.cell? ⟨B, 6, none⟩ = some x6 := by
  obtain ⟨h0, h1, h2, h3, h4, h5, h6⟩ := h
  exact ⟨(hb.cell (p := ⟨B, 0, none⟩) hn).trans h0, (hb.cell (p := ⟨B, 1, none⟩) hn).trans h1, (hb.cell (p := ⟨B, 2, none⟩) hn).trans h2, (hb.cell (p := ⟨B, 3, none⟩) hn).trans h3, (hb.cell (p := ⟨B, 4, none⟩) hn).trans h4, (hb.cell (p := ⟨B, 5, none⟩) hn).trans h5, (hb.cell (p := ⟨B, 6, none⟩) hn).trans h6⟩
end Go.Proofs.YtpdpejlcilnafaaGreatDoor.kit
namespace Go.Proofs.YtpdpejlcilnafaaGreatDoor.kit
open Go.ChangeShapes Go.WideShapes Go.ChangeAt Go.RowKit
set_option linter.unusedVariables false
set_option linter.unusedSimpArgs false

def resOk (L : List Ent) (i : Int) : Prop := LOk L ∧ 0 ≤ i ∧ i < (L.length : Int)
instance (L : List Ent) (i : Int) : Decidable (resOk L i) := by unfold resOk; infer_instance
def resD (L : List Ent) (i : Int) : Bool := if resOk L i then appD (rep L i.toNat).1 (rep L i.toNat).2 (gE L i.toNat).c (gE L i.toNat).s (gE L i.toNat).k (gE L i.toNat).o (gE L i.toNat).d (gE L i.toNat).v else false
def resV (L : List Ent) (i : Int) : Int := if resOk L i then appV (rep L i.toNat).1 (rep L i.toNat).2 (gE L i.toNat).c (gE L i.toNat).s (gE L i.toNat).k (gE L i.toNat).o (gE L i.toNat).d (gE L i.toNat).v else 0
def resB (L : List Ent) (i : Int) : Bool := if resOk L i then appB (rep L i.toNat).1 (rep L i.toNat).2 (gE L i.toNat).c (gE L i.toNat).s (gE L i.toNat).k (gE L i.toNat).o (gE L i.toNat).d (gE L i.toNat).v else false
theorem rep_take (L : List Ent) (n : Nat) : ∀ k, k ≤ n → rep (L.take n) k = rep L k
  | 0, _ => rfl
  | k + 1, h => by
    show appE1 (rep (L.take n) k) (gE (L.take n) k) = appE1 (rep L k) (gE L k)
    rw [rep_take L n k (by omega), gE_take (by omega)]
theorem sliced_upto (a : Option Addr) (k c : Nat) : sliced a 0 k c 7 = .slice a k c := by
  unfold sliced
  by_cases h : c = 0
  · rw [if_pos h, Nat.sub_zero, Nat.sub_zero]
  · rw [if_neg h, Nat.sub_zero, Nat.sub_zero, Nat.zero_mul]
    cases a with
    | none => rfl
    | some p => rw [Option.map_some, add_zero']
theorem run_uptoE (W : World) (a : Option Addr) (n cap k : Nat) (hk : k ≤ cap) : (Instr.slice 24 (.slice a n cap) none (some (.int .i64 (k : Int))) none).run Tryz.prog W = .ok (.slice a k cap) W := by
  rw [run_slice_h (P := Tryz.prog) W 24 a n cap (by kernel_rfl) .i64 (k : Int) (by omega) (by omega)]
  have hs : (sizeOf (Tryz.prog.elem 24)).run Tryz.prog W = .ok 7 W := by kernel_rfl
  rw [hs]
  show Result.ok (sliced a 0 (k : Int).toNat cap 7) W = _
  rw [Int.toNat_natCast, sliced_upto]
end Go.Proofs.YtpdpejlcilnafaaGreatDoor.kit
