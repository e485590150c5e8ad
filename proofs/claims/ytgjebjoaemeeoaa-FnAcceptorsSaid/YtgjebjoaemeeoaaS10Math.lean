/-
  Chapter 10, plain: which acceptors are valid; what Prepare and Accept do.
-/
import Derived.Test.YtgjebjoaemeeoaaS8Plain
namespace Go.Proofs.Ytgjebjoaemeeoaa.kit
set_option linter.unusedVariables false
set_option linter.unusedSimpArgs false

/-- a value named as it is -/
def same {α : Type} (a : α) : α := a
def valOk (y s t : Int) (L1 L2 : List Int) : Bool := if y = 0 then decide (s = 0 ∧ t = 0 ∧ L1 = [] ∧ L2 = []) else cfgOk s t L1 L2
/-- a valid acceptor -/
def accOk (x y s t : Int) (L1 L2 : List Int) : Bool := decide (0 ≤ x ∧ x ≤ 99) && (decide (0 ≤ y ∧ y ≤ x) && valOk y s t L1 L2)
def inBal (b : Int) : Bool := decide (1 ≤ b ∧ b ≤ 99)
def prepOk (x y s t : Int) (L1 L2 : List Int) (b : Int) : Bool := accOk x y s t L1 L2 && (inBal b && decide (x < b))
def prepX (x y s t : Int) (L1 L2 : List Int) (b : Int) : Int := if prepOk x y s t L1 L2 b = true then b else x
def acpOk (x y s t : Int) (L1 L2 : List Int) (b s' t' : Int) (M1 M2 : List Int) : Bool := accOk x y s t L1 L2 && (inBal b && (cfgOk s' t' M1 M2 && decide (x ≤ b)))
def acpSel {α : Type} (x y s t : Int) (L1 L2 : List Int) (b s' t' : Int) (M1 M2 : List Int) (p q : α) : α := if acpOk x y s t L1 L2 b s' t' M1 M2 = true then p else q
def acpX (x y s t : Int) (L1 L2 : List Int) (b s' t' : Int) (M1 M2 : List Int) : Int := acpSel x y s t L1 L2 b s' t' M1 M2 b x
def acpY (x y s t : Int) (L1 L2 : List Int) (b s' t' : Int) (M1 M2 : List Int) : Int := acpSel x y s t L1 L2 b s' t' M1 M2 b y
def acpS (x y s t : Int) (L1 L2 : List Int) (b s' t' : Int) (M1 M2 : List Int) : Int := acpSel x y s t L1 L2 b s' t' M1 M2 s' s
def acpT (x y s t : Int) (L1 L2 : List Int) (b s' t' : Int) (M1 M2 : List Int) : Int := acpSel x y s t L1 L2 b s' t' M1 M2 t' t
def acpL1 (x y s t : Int) (L1 L2 : List Int) (b s' t' : Int) (M1 M2 : List Int) : List Int := acpSel x y s t L1 L2 b s' t' M1 M2 M1 L1
def acpL2 (x y s t : Int) (L1 L2 : List Int) (b s' t' : Int) (M1 M2 : List Int) : List Int := acpSel x y s t L1 L2 b s' t' M1 M2 M2 L2
theorem acpSel_yes {α : Type} {x y s t : Int} {L1 L2 : List Int} {b s' t' : Int} {M1 M2 : List Int} (h : acpOk x y s t L1 L2 b s' t' M1 M2 = true) (p q : α) : acpSel x y s t L1 L2 b s' t' M1 M2 p q = p := if_pos h
theorem acpSel_no {α : Type} {x y s t : Int} {L1 L2 : List Int} {b s' t' : Int} {M1 M2 : List Int} (h : acpOk x y s t L1 L2 b s' t' M1 M2 = false) (p q : α) : acpSel x y s t L1 L2 b s' t' M1 M2 p q = q := if_neg (by rw [h]; simp)
theorem acpSel_len {x y s t : Int} {L1 L2 : List Int} {b s' t' : Int} {M1 M2 : List Int} {n : Nat} {p q : List Int} (h1 : p.length ≤ n) (h2 : q.length ≤ n) : (acpSel x y s t L1 L2 b s' t' M1 M2 p q).length ≤ n := by unfold acpSel; split <;> assumption
theorem acpL1_len (x y s t : Int) (L1 L2 : List Int) (b s' t' : Int) (M1 M2 : List Int) {n : Nat} (h1 : M1.length ≤ n) (h2 : L1.length ≤ n) : (acpL1 x y s t L1 L2 b s' t' M1 M2).length ≤ n := acpSel_len h1 h2
theorem acpL2_len (x y s t : Int) (L1 L2 : List Int) (b s' t' : Int) (M1 M2 : List Int) {n : Nat} (h1 : M2.length ≤ n) (h2 : L2.length ≤ n) : (acpL2 x y s t L1 L2 b s' t' M1 M2).length ≤ n := acpSel_len h1 h2
theorem same_len {L : List Int} {n : Nat} (h : L.length ≤ n) : (same L).length ≤ n := h
end Go.Proofs.Ytgjebjoaemeeoaa.kit
