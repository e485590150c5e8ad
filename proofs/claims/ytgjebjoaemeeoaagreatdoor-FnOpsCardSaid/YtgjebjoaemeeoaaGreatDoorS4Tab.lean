/-
  Chapter 4, plain: what the table of a list of sessions reads as; the list with one session put in its place; the machine behind an operation.
-/
import Derived.Test.YtgjebjoaemeeoaaGreatDoorS4Map
import Derived.Test.YtgjebjoaemeeoaaGreatDoorS4Perform
namespace Go.Proofs.YtgjebjoaemeeoaaGreatDoor.kit
open Go.ChangeShapes Go.WideShapes Go.ChangeAt Go.RowKit Go.Maps
set_option linter.unusedVariables false

def ltS (x y : Sess) : Prop := x.1 < y.1
theorem strict_ext : ∀ (l m : List Sess), l.Pairwise ltS → m.Pairwise ltS → (∀ y, y ∈ l ↔ y ∈ m) → l = m
  | [], [], _, _, _ => rfl
  | [], y :: m, _, _, h => by have := (h y).2 (by simp); simp at this
  | x :: l, [], _, _, h => by have := (h x).1 (by simp); simp at this
  | x :: l, y :: m, hl, hm, h => by
    rw [List.pairwise_cons] at hl hm
    have hxy : x = y := by
      rcases List.mem_cons.1 ((h x).1 (by simp)) with e | e
      · exact e
      · rcases List.mem_cons.1 ((h y).2 (by simp)) with e2 | e2
        · exact e2.symm
        · have a := hm.1 x e
          have b := hl.1 y e2
          unfold ltS at a b
          omega
    subst hxy
    rw [strict_ext l m hl.2 hm.2 (fun z => ?_)]
    constructor
    · intro hz
      rcases List.mem_cons.1 ((h z).1 (List.mem_cons_of_mem _ hz)) with e | e
      · subst e; have := hl.1 z hz; unfold ltS at this; omega
      · exact e
    · intro hz
      rcases List.mem_cons.1 ((h z).2 (List.mem_cons_of_mem _ hz)) with e | e
      · subst e; have := hm.1 z hz; unfold ltS at this; omega
      · exact e
/-- x put in its place -/
def insR : List Sess → Sess → List Sess
  | [], x => [x]
  | y :: l, x => if y.1 < x.1 then y :: insR l x else if y.1 = x.1 then x :: l else x :: y :: l
theorem insR_mem (x : Sess) : ∀ (l : List Sess), l.Pairwise ltS → ∀ z, z ∈ insR l x ↔ (z = x ∨ (z.1 ≠ x.1 ∧ z ∈ l))
  | [], _, z => by simp [insR]
  | y :: l, h, z => by
    rw [List.pairwise_cons] at h
    unfold insR
    by_cases h1 : y.1 < x.1
    · rw [if_pos h1, List.mem_cons, insR_mem x l h.2 z, List.mem_cons]
      constructor
      · rintro (rfl | rfl | ⟨a, b⟩)
        · exact .inr ⟨by omega, .inl rfl⟩
        · exact .inl rfl
        · exact .inr ⟨a, .inr b⟩
      · rintro (rfl | ⟨a, rfl | b⟩)
        · exact .inr (.inl rfl)
        · exact .inl rfl
        · exact .inr (.inr ⟨a, b⟩)
    · rw [if_neg h1]
      by_cases h2 : y.1 = x.1
      · rw [if_pos h2, List.mem_cons, List.mem_cons]
        constructor
        · rintro (rfl | b)
          · exact .inl rfl
          · exact .inr ⟨by have := h.1 z b; unfold ltS at this; omega, .inr b⟩
        · rintro (rfl | ⟨a, rfl | b⟩)
          · exact .inl rfl
          · exact absurd h2 a
          · exact .inr b
      · rw [if_neg h2, List.mem_cons, List.mem_cons]
        constructor
        · rintro (rfl | rfl | b)
          · exact .inl rfl
          · exact .inr ⟨h2, .inl rfl⟩
          · exact .inr ⟨by have := h.1 z b; unfold ltS at this; omega, .inr b⟩
        · rintro (rfl | ⟨a, rfl | b⟩)
          · exact .inl rfl
          · exact .inr (.inl rfl)
          · exact .inr (.inr b)
theorem insR_asc (x : Sess) : ∀ (l : List Sess), l.Pairwise ltS → (insR l x).Pairwise ltS
  | [], _ => by simp [insR]
  | y :: l, h => by
    have h' := h
    rw [List.pairwise_cons] at h
    unfold insR
    by_cases h1 : y.1 < x.1
    · rw [if_pos h1, List.pairwise_cons]
      refine ⟨fun z hz => ?_, insR_asc x l h.2⟩
      rcases (insR_mem x l h.2 z).1 hz with rfl | ⟨_, b⟩
      · exact h1
      · exact h.1 z b
    · rw [if_neg h1]
      by_cases h2 : y.1 = x.1
      · rw [if_pos h2, List.pairwise_cons]
        exact ⟨fun z hz => by have := h.1 z hz; unfold ltS at *; omega, h.2⟩
      · rw [if_neg h2, List.pairwise_cons]
        refine ⟨fun z hz => ?_, h'⟩
        rcases List.mem_cons.1 hz with rfl | b
        · unfold ltS; omega
        · have := h.1 z b; unfold ltS at *; omega
theorem hasSess_cons (y : Sess) (l : List Sess) (c : Int) : hasSess (y :: l) c = ((y.1 == c) || hasSess l c) := by
  unfold hasSess findS
  rw [List.find?_cons]
  cases h : (y.1 == c) <;> simp
theorem hasSess_above (c : Int) : ∀ (l : List Sess), (∀ z ∈ l, c < z.1) → hasSess l c = false
  | [], _ => rfl
  | y :: l, h => by
    rw [hasSess_cons, hasSess_above c l (fun z hz => h z (by simp [hz])), Bool.or_false]
    have := h y (by simp)
    rw [beq_eq_false_iff_ne]; omega
/-- as spec's text lays it: the leading ones, x, the rest -/
theorem insR_cut (x : Sess) : ∀ (l : List Sess) (k : Nat), l.Pairwise ltS → k ≤ l.length → (∀ j, j < k → (sg l j).1 < x.1) → (k < l.length → ¬ (sg l k).1 < x.1) →
    insR l x = l.take k ++ [x] ++ l.drop (k + if hasSess l x.1 then 1 else 0)
  | [], k, _, hk, _, _ => by
    have : k = 0 := by simpa using hk
    subst this
    simp [insR]
  | y :: l, 0, h, _, _, h2 => by
    rw [List.pairwise_cons] at h
    have hy : ¬ y.1 < x.1 := h2 (by simp)
    unfold insR
    rw [if_neg hy, hasSess_cons]
    by_cases e : y.1 = x.1
    · rw [if_pos e]; simp [e]
    · have hn : hasSess l x.1 = false := hasSess_above x.1 l (fun z hz => by have := h.1 z hz; unfold ltS at this; omega)
      rw [if_neg e, hn]
      have : (y.1 == x.1) = false := by rw [beq_eq_false_iff_ne]; exact e
      simp [this]
  | y :: l, k + 1, h, hk, h1, h2 => by
    rw [List.pairwise_cons] at h
    have hy : y.1 < x.1 := h1 0 (by omega)
    have ih := insR_cut x l k h.2 (by simpa using hk) (fun j hj => h1 (j + 1) (by omega)) (fun hl => h2 (by simpa using hl))
    unfold insR
    rw [if_pos hy, ih, hasSess_cons]
    have : (y.1 == x.1) = false := by rw [beq_eq_false_iff_ne]; omega
    rw [this, Bool.false_or]
    have e2 : (k + 1 + if hasSess l x.1 = true then 1 else 0) = (k + if hasSess l x.1 = true then 1 else 0) + 1 := by omega
    rw [e2]
    simp
/-! ### the table -/
theorem key_int (c : Int) : WideAt.IsKeyLit (.int .i64 c) := by simp [WideAt.IsKeyLit]
theorem isMap_tab : ∀ (l : List Sess) (D : DataW Unit), IsMap D → IsMap (l.foldl (fun D x => D.put (.int .i64 x.1) (sessD x)) D)
  | [], _, h => h
  | x :: l, D, h => isMap_tab l _ (h.put _ _)
theorem tab_isMap (l : List Sess) : IsMap (tab l) := isMap_tab l _ isMap_empty
theorem sessD_inj {x y : Sess} (h : sessD x = sessD y) : x = y := by
  obtain ⟨a, b, c, d⟩ := x
  obtain ⟨a', b', c', d'⟩ := y
  simp [sessD] at h
  obtain ⟨r1, r2, r3, r4⟩ := h
  subst r1 r2 r3 r4
  rfl
theorem key_ne {a b : Int} (h : a ≠ b) : (Lit.int .i64 a) ≠ .int .i64 b := by simpa using h
theorem reads_put {D : DataW Unit} (hD : IsMap D) (x y : Sess) : Reads (D.put (.int .i64 x.1) (sessD x)) y ↔ (y = x ∨ (y.1 ≠ x.1 ∧ Reads D y)) := by
  unfold Reads
  by_cases h : y.1 = x.1
  · rw [h]
    simp only [has_put_same hD (key_int x.1), atKey_put_same hD (key_int x.1)]
    constructor
    · rintro ⟨_, h2⟩; exact .inl (sessD_inj (h2 .nil)).symm
    · rintro (rfl | ⟨a, _⟩)
      · exact ⟨trivial, fun _ => rfl⟩
      · exact absurd rfl a
  · simp only [has_put_other (key_ne h), atKey_put_other (key_ne h)]
    constructor
    · rintro hh; exact .inr ⟨h, hh⟩
    · rintro (rfl | ⟨_, hh⟩)
      · exact absurd rfl h
      · exact hh
theorem reads_rev (y : Sess) : ∀ (r : List Sess), (r.map (·.1)).Nodup → (Reads (tab r.reverse) y ↔ y ∈ r)
  | [], _ => by simp [tab, Reads, has]
  | x :: r, h => by
    rw [List.map_cons, List.nodup_cons] at h
    rw [List.reverse_cons, tab_snoc, reads_put (tab_isMap _), reads_rev y r h.2, List.mem_cons]
    constructor
    · rintro (e | ⟨_, e⟩)
      · exact .inl e
      · exact .inr e
    · rintro (e | e)
      · exact .inl e
      · exact .inr ⟨fun e2 => h.1 (List.mem_map.2 ⟨y, e, e2⟩), e⟩
theorem has_rev (c : Int) : ∀ (r : List Sess), has (tab r.reverse) (.int .i64 c) = r.any (fun y => y.1 == c)
  | [] => by simp [tab, has]
  | x :: r => by
    rw [List.reverse_cons, tab_snoc, List.any_cons]
    by_cases h : c = x.1
    · subst h; rw [has_put_same (tab_isMap _) (key_int _)]; simp
    · rw [has_put_other (key_ne h), has_rev c r]
      have : (x.1 == c) = false := by rw [beq_eq_false_iff_ne]; omega
      rw [this, Bool.false_or]
theorem reads_tab {l : List Sess} (h : (l.map (·.1)).Nodup) (y : Sess) : Reads (tab l) y ↔ y ∈ l := by
  have h1 := reads_rev y l.reverse (by rw [List.map_reverse]; exact (List.reverse_perm _).nodup_iff.2 h)
  rw [List.reverse_reverse, List.mem_reverse] at h1
  exact h1
theorem has_tab (l : List Sess) (c : Int) : has (tab l) (.int .i64 c) = hasSess l c := by
  have h1 := has_rev c l.reverse
  rw [List.reverse_reverse, List.any_reverse] at h1
  rw [h1]
  clear h1
  induction l with
  | nil => rfl
  | cons y l ih => rw [List.any_cons, ih, hasSess_cons]
theorem has_sessOf {l : List Sess} {c : Int} (h : hasSess l c = true) : sessOf l c ∈ l ∧ (sessOf l c).1 = c := by
  unfold hasSess at h
  obtain ⟨x, hx⟩ := Option.isSome_iff_exists.1 h
  unfold sessOf
  rw [hx]
  unfold findS at hx
  exact ⟨List.mem_of_find?_eq_some hx, by have := List.find?_some hx; simpa using this⟩
theorem atKey_tab {l : List Sess} (hn : (l.map (·.1)).Nodup) {c : Int} (h : hasSess l c = true) (zd : DataW Unit) : (tab l).atKey (.int .i64 c) zd = sessD (sessOf l c) := by
  obtain ⟨h1, h2⟩ := has_sessOf h
  have := ((reads_tab hn _).2 h1).2 zd
  rw [h2] at this
  exact this
theorem sessAsc_pair {l : List Sess} (h : ∀ j, j < l.length → sessAsc l j) : l.Pairwise ltS := by
  have hs : ∀ i j, i < j → j < l.length → (sg l i).1 < (sg l j).1 := by
    intro i j hij hj
    induction j with
    | zero => omega
    | succ j ih =>
      have h1 := (h (j + 1) hj).2 (by omega)
      rw [Nat.add_sub_cancel] at h1
      by_cases e : i = j
      · rw [e]; exact h1
      · have := ih (by omega) (by omega); omega
  rw [List.pairwise_iff_getElem]
  intro i j hi hj hij
  have := hs i j hij hj
  rw [sg_eq hi, sg_eq hj] at this
  exact this
theorem pair_nodup {l : List Sess} (h : l.Pairwise ltS) : (l.map (·.1)).Nodup := by
  rw [List.Nodup, List.pairwise_map]
  exact h.imp (fun hab e => by unfold ltS at hab; omega)
/-- what the walk over the changed table hands back is the list with x in its place -/
theorem sorted_ins {l ss : List Sess} {x : Sess} (hl : l.Pairwise ltS) (hnd : (ss.map (·.1)).Nodup) (hso : ss.Pairwise (fun x y => x.1 ≤ y.1)) (hm : ∀ y, y ∈ ss ↔ Reads ((tab l).put (.int .i64 x.1) (sessD x)) y) : ss = insR l x := by
  refine strict_ext _ _ ?_ (insR_asc x l hl) (fun y => ?_)
  · rw [List.Nodup, List.pairwise_map] at hnd
    exact hso.imp₂ (fun a b h1 h2 => by unfold ltS; omega) hnd
  · rw [hm, reads_put (tab_isMap _), reads_tab (pair_nodup hl), insR_mem x l hl]
/-! ### the machine behind an operation -/
def appOk (L1 : List Int) (L2 : List Sess) (c s k o d v : Int) : Bool := decide (MOk L1 L2) && okOp c s k o d v
/-- the operation is performed, and not known -/
def appNew (L1 : List Int) (L2 : List Sess) (c s k o d v : Int) : Bool := appOk L1 L2 c s k o d v && (!hasSess L2 c || decide ((sessOf L2 c).2.1 < s))
def appSame (L1 : List Int) (L2 : List Sess) (c s k o d v : Int) : Bool := appOk L1 L2 c s k o d v && (hasSess L2 c && ((sessOf L2 c).2.1 == s))
def appO (L1 : List Int) (L2 : List Sess) (c s k o d v : Int) : List Int := if appNew L1 L2 c s k o d v then setO L1 o.toNat k d v else L1
def appS (L1 : List Int) (L2 : List Sess) (c s k o d v : Int) : List Sess := if appNew L1 L2 c s k o d v then insR L2 (c, s, doneO k d (L1.getD o.toNat 0), L1.getD o.toNat 0) else L2
def appD (L1 : List Int) (L2 : List Sess) (c s k o d v : Int) : Bool := if appNew L1 L2 c s k o d v then doneO k d (L1.getD o.toNat 0) else if appSame L1 L2 c s k o d v then (sessOf L2 c).2.2.1 else false
def appV (L1 : List Int) (L2 : List Sess) (c s k o d v : Int) : Int := if appNew L1 L2 c s k o d v then L1.getD o.toNat 0 else if appSame L1 L2 c s k o d v then (sessOf L2 c).2.2.2 else 0
def appB (L1 : List Int) (L2 : List Sess) (c s k o d v : Int) : Bool := appNew L1 L2 c s k o d v || appSame L1 L2 c s k o d v
end Go.Proofs.YtgjebjoaemeeoaaGreatDoor.kit
