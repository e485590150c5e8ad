/-
  Chapter 5, plain: what a log is; the common prefix of two lists; the first entry of an operation.
-/
import Derived.Test.YtgjebjoaemeeoaaGreatDoorEnts3
import Derived.Test.YtgjebjoaemeeoaaGreatDoorS3Plain
namespace Go.Proofs.YtgjebjoaemeeoaaGreatDoor.kit
open Go.ChangeShapes Go.WideShapes Go.ChangeAt Go.RowKit
set_option linter.unusedVariables false

def okE (n : Int) : Bool := decide (1 ≤ n ∧ n ≤ 20)
def entOk (x : Ent) : Bool := okE x.e && okOp x.c x.s x.k x.o x.d x.v
/-- the j-th entry is valid and its epoch does not fall -/
def entAsc (l : List Ent) (j : Nat) : Prop := entOk (gE l j) = true ∧ (0 < j → (gE l (j - 1)).e ≤ (gE l j).e)
instance (l : List Ent) (j : Nat) : Decidable (entAsc l j) := by unfold entAsc; infer_instance
def LOk (l : List Ent) : Prop := (∀ j, j < l.length → entAsc l j) ∧ l.length ≤ 16
instance (l : List Ent) : Decidable (LOk l) := by unfold LOk; infer_instance
theorem not_LOk_len {l : List Ent} (h : 16 < l.length) : decide (LOk l) = false := decide_eq_false (fun m => by have := m.2; omega)
theorem not_LOk_bad {l : List Ent} {k : Nat} (h : k < l.length) (hv : entOk (gE l k) = false) : decide (LOk l) = false :=
  decide_eq_false (fun m => by have := (m.1 k h).1; rw [hv] at this; cases this)
theorem not_LOk_asc {l : List Ent} {k : Nat} (h : k < l.length) (h0 : 0 < k) (hv : (gE l k).e < (gE l (k - 1)).e) : decide (LOk l) = false :=
  decide_eq_false (fun m => by have := (m.1 k h).2 h0; omega)
theorem LOk.take {l : List Ent} (h : LOk l) (n : Nat) : LOk (l.take n) := by
  refine ⟨fun j hj => ?_, by rw [List.length_take]; have := h.2; omega⟩
  rw [List.length_take] at hj
  have := h.1 j (by omega)
  unfold entAsc at this ⊢
  rw [gE_take (by omega), gE_take (by omega)]
  exact this
/-- how many entries two lists have in common at their beginnings -/
def comPre : List Ent → List Ent → Nat
  | x :: a, y :: b => if x = y then comPre a b + 1 else 0
  | _, _ => 0
theorem comPre_of : ∀ (a b : List Ent) (k : Nat), k ≤ a.length → k ≤ b.length → (∀ j, j < k → gE a j = gE b j) → (k < a.length → k < b.length → gE a k ≠ gE b k) → comPre a b = k
  | [], b, k, h1, _, _, _ => by
    have : k = 0 := by simpa using h1
    subst this; rfl
  | x :: a, [], k, _, h2, _, _ => by
    have : k = 0 := by simpa using h2
    subst this; rfl
  | x :: a, y :: b, 0, _, _, _, h => by
    have := h (by simp) (by simp)
    have hxy : x ≠ y := this
    unfold comPre
    rw [if_neg hxy]
  | x :: a, y :: b, k + 1, h1, h2, h3, h4 => by
    have hxy : x = y := h3 0 (by omega)
    unfold comPre
    rw [if_pos hxy, comPre_of a b k (by simpa using h1) (by simpa using h2) (fun j hj => h3 (j + 1) (by omega)) (fun p q => h4 (by simpa using p) (by simpa using q))]
theorem comPre_le (a b : List Ent) : comPre a b ≤ a.length ∧ comPre a b ≤ b.length := by
  induction a generalizing b with
  | nil => simp [comPre]
  | cons x a ih =>
    cases b with
    | nil => simp [comPre]
    | cons y b =>
      unfold comPre
      have := ih b
      split <;> simp <;> omega
def isPre (a b : List Ent) : Bool := decide (comPre a b = a.length)
/-- the first entry with this client and Seq; -1: none -/
def isIt (c s : Int) (x : Ent) : Bool := x.c == c && x.s == s
def findE (l : List Ent) (c s : Int) : Int := match l.findIdx? (isIt c s) with
  | some i => (i : Int)
  | none => -1
theorem findE_hit {l : List Ent} {c s : Int} {k : Nat} (hk : k < l.length) (hb : ∀ j, j < k → isIt c s (gE l j) = false) (h : isIt c s (gE l k) = true) : findE l c s = (k : Int) := by
  have e : l.findIdx? (isIt c s) = some k := by
    rw [List.findIdx?_eq_some_iff_getElem]
    refine ⟨hk, by rw [← gE_eq hk]; exact h, fun j hj => ?_⟩
    have := hb j hj
    rw [gE_eq (by omega)] at this
    simp [this]
  unfold findE
  rw [e]
theorem findE_none {l : List Ent} {c s : Int} (hb : ∀ j, j < l.length → isIt c s (gE l j) = false) : findE l c s = -1 := by
  have e : l.findIdx? (isIt c s) = none := by
    rw [List.findIdx?_eq_none_iff]
    intro x hx
    obtain ⟨j, hj, rfl⟩ := List.getElem_of_mem hx
    rw [← gE_eq hj]
    exact hb j hj
  unfold findE
  rw [e]
/-- a list with one entry more, if that is a log -/
def appEok (l : List Ent) (x : Ent) : Bool := decide (LOk (l ++ [x]))
def appE (l : List Ent) (x : Ent) : List Ent := if appEok l x then l ++ [x] else l
theorem LOk_init {l : List Ent} {x : Ent} (h : LOk (l ++ [x])) : LOk l := by
  have := h.take l.length
  simpa using this
theorem appE_len (l : List Ent) (x : Ent) (h : l.length ≤ 1048576) : (appE l x).length ≤ 2097152 := by
  unfold appE
  by_cases hx : appEok l x = true
  · rw [if_pos hx, List.length_append]; simp; omega
  · rw [if_neg hx]; omega
end Go.Proofs.YtgjebjoaemeeoaaGreatDoor.kit
