/-
  Chapter 4: a map from clients to sessions that the call makes: what it reads as; impl's tableOf.
-/
import Derived.Test.YtgjebjoaemeeoaaGreatDoorS4Rows
import Derived.Test.YtgjebjoaemeeoaaGreatDoorS4Plain
import Derived.Maps.RangeWalk
import Derived.Maps.OwnSet
import Derived.BigQuiet
import Derived.Sort.OwnSorted
namespace Go.Proofs.YtgjebjoaemeeoaaGreatDoor.kit
open Go.ChangeShapes Go.WideShapes Go.ChangeAt Go.RowKit Go.Maps
set_option linter.unusedVariables false

def sessD (x : Sess) : DataW Unit := .agg [.lit (.int .i64 x.1), .lit (.int .i64 x.2.1), .lit (.bool x.2.2.1), .lit (.int .i64 x.2.2.2)]
/-- how a session reads as a map's element -/
def sessElem (v : Value) : Option (DataW Unit × List MemPlace) := match v with
  | .agg ⟨[.int .i64 c, .int .i64 s, .bool d, .int .i64 v]⟩ => some (sessD (c, s, d, v), [])
  | _ => none
theorem sessElem_mk (x : Sess) : sessElem (sessV x) = some (sessD x, []) := rfl
theorem sessElem_inv {v : Value} {z : DataW Unit × List MemPlace} (h : sessElem v = some z) : ∃ x : Sess, v = sessV x ∧ z = (sessD x, []) := by
  unfold sessElem at h
  split at h
  · rename_i c s d v
    cases h
    exact ⟨(c, s, d, v), rfl, rfl⟩
  · cases h
def tab (l : List Sess) : DataW Unit := l.foldl (fun D x => D.put (.int .i64 x.1) (sessD x)) (.map [])
theorem tab_snoc (l : List Sess) (x : Sess) : tab (l ++ [x]) = (tab l).put (.int .i64 x.1) (sessD x) := by simp [tab, List.foldl_append]
theorem keyInt : Keyed Tryz.prog 3 := int_keyed Tryz.underlying3
def wfC (l : List Sess) : Prop := ∀ j, j < l.length → (Lit.int .i64 (sg l j).1).wf = true
/-- the datum D reads, at the client of x, as x -/
def Reads (D : DataW Unit) (x : Sess) : Prop := has D (.int .i64 x.1) = true ∧ ∀ zd, D.atKey (.int .i64 x.1) zd = sessD x
/-- what a loop over the map has met -/
structure Met4 (D : DataW Unit) (left : Lit → Bool) (ss : List Sess) : Prop where
  nd : (ss.map (·.1)).Nodup
  ok : ∀ x ∈ ss, Reads D x
  off : ∀ x ∈ ss, left (.int .i64 x.1) = false
  all : ∀ kl, has D kl = true → left kl = true ∨ ∃ x ∈ ss, kl = .int .i64 x.1
  le : ∀ kl, left kl = true → has D kl = true
theorem Met4.start (D : DataW Unit) : Met4 D (has D) [] := ⟨List.nodup_nil, by simp, by simp, fun kl h => .inl h, fun kl h => h⟩
theorem same_int (a b : Int) : (Lit.int .i64 a).sameKey (.int .i64 b) = (a == b) := by
  by_cases h : a = b
  · subst h; simp [Lit.sameKey]
  · rw [Maps.sameKey_ne (by simpa using h)]; simp [h]
theorem Met4.step {D : DataW Unit} {left : Lit → Bool} {ss : List Sess} {x : Sess} (h : Met4 D left ss) (hl : left (.int .i64 x.1) = true) (ha : ∀ zd, D.atKey (.int .i64 x.1) zd = sessD x) :
    Met4 D (fun z => left z && !z.sameKey (.int .i64 x.1)) (ss ++ [x]) := by
  have hnot : ∀ y ∈ ss, y.1 ≠ x.1 := fun y hy e => by have := h.off y hy; rw [e, hl] at this; cases this
  refine ⟨?_, ?_, ?_, ?_, ?_⟩
  · rw [List.map_append, List.nodup_append]
    refine ⟨h.nd, by simp, ?_⟩
    intro a ha' b hb
    obtain ⟨y, hy, rfl⟩ := List.mem_map.1 ha'
    simp only [List.map_cons, List.map_nil, List.mem_cons, List.not_mem_nil, or_false] at hb
    subst hb
    exact hnot y hy
  · intro y hy
    rcases List.mem_append.1 hy with hy | hy
    · exact h.ok y hy
    · simp only [List.mem_cons, List.not_mem_nil, or_false] at hy
      subst hy
      exact ⟨h.le _ hl, ha⟩
  · intro y hy
    rcases List.mem_append.1 hy with hy | hy
    · simp only [h.off y hy, Bool.false_and]
    · simp only [List.mem_cons, List.not_mem_nil, or_false] at hy
      subst hy
      simp only [same_int, beq_self_eq_true, Bool.not_true, Bool.and_false]
  · intro kl hk
    rcases h.all kl hk with h1 | ⟨y, hy, rfl⟩
    · by_cases he : kl = .int .i64 x.1
      · exact .inr ⟨x, by simp, he⟩
      · refine .inl ?_
        simp only [h1, Maps.sameKey_ne he, Bool.not_false, Bool.and_self]
    · exact .inr ⟨y, by simp [hy], rfl⟩
  · intro kl hk
    simp only [Bool.and_eq_true] at hk
    exact h.le kl hk.1
/-- all met: each session that the datum reads is there -/
theorem Met4.done {D : DataW Unit} {left : Lit → Bool} {ss : List Sess} (h : Met4 D left ss) (h0 : ∀ kl, left kl = false) (x : Sess) : x ∈ ss ↔ Reads D x := by
  refine ⟨h.ok x, fun hr => ?_⟩
  rcases h.all _ hr.1 with h1 | ⟨y, hy, he⟩
  · rw [h0] at h1; cases h1
  · have hxy : x.1 = y.1 := by simpa using he
    have h2 := (h.ok y hy).2 (.nil)
    rw [← hxy, hr.2] at h2
    have : x = y := by
      obtain ⟨a, b, c, d⟩ := x
      obtain ⟨a', b', c', d'⟩ := y
      simp [sessD] at h2
      obtain ⟨r1, r2, r3, r4⟩ := h2
      subst r1 r2 r3 r4
      rfl
    rw [this]; exact hy
end Go.Proofs.YtgjebjoaemeeoaaGreatDoor.kit
