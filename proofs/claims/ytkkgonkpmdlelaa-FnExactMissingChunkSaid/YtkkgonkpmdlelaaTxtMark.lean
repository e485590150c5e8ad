/-
  The laws' marks on slices of strings: the text of a mark; writing and checking them.
-/
import Derived.Test.YtkkgonkpmdlelaaTxts
import Derived.Lib.ItoaNum
import Derived.Deep.RegionWith
import Derived.Deep.DeepCutAuto
import Derived.Test.YtkkgonkpmdlelaaLater
namespace Go.Proofs.Ytkkgonkpmdlelaa.kit
open Go.ChangeShapes Go.WideShapes Go.ChangeAt Go.RowKit
set_option linter.unusedVariables false

/-- the text of a mark -/
def mtL (k : Nat) : List UInt8 := 109 :: Lib.decDigits k
def mtB (k : Nat) : ByteArray := ⟨(mtL k).toArray⟩
theorem mdSmall {u : Nat} (h : u < 10) : Lib.decDigits u = [UInt8.ofNat (48 + u)] := by rw [Lib.decDigits, dif_pos h]
theorem mdBig {u : Nat} (h : ¬ u < 10) : Lib.decDigits u = Lib.decDigits (u / 10) ++ [UInt8.ofNat (48 + u % 10)] := by rw [Lib.decDigits, dif_neg h]
theorem mdLen : ∀ (k u : Nat), u < 10 ^ (k + 1) → (Lib.decDigits u).length ≤ k + 1 := by
  intro k
  induction k with
  | zero => intro u h; rw [mdSmall (by simpa using h)]; simp
  | succ k ih =>
    intro u h
    by_cases hu : u < 10
    · rw [mdSmall hu]; simp
    · rw [mdBig hu, List.length_append]
      have := ih (u / 10) (by rw [Nat.pow_succ] at h; omega)
      simp; omega
def MInv (a m : Nat) (l : List UInt8) : Prop := (0 < m → Lib.decDigits m ++ l = Lib.decDigits a) ∧ (m = 0 → l = Lib.decDigits a)
theorem MInv.start {a : Nat} (h : 0 < a) : MInv a a [] := ⟨fun _ => by simp, fun h0 => by omega⟩
theorem MInv.step {a m : Nat} {l : List UInt8} (h : MInv a m l) (hm : 0 < m) : MInv a (m / 10) (UInt8.ofNat (48 + m % 10) :: l) := by
  have h1 := h.1 hm
  by_cases hu : m < 10
  · rw [mdSmall hu] at h1
    refine ⟨fun h0 => by omega, fun _ => ?_⟩
    rw [← h1, Nat.mod_eq_of_lt hu]; rfl
  · rw [mdBig hu, List.append_assoc] at h1
    exact ⟨fun _ => h1, fun h0 => by omega⟩
theorem MInv.len {a m : Nat} {l : List UInt8} (h : MInv a m l) (ha : a < 10 ^ 20) : l.length ≤ 20 := by
  have hl := mdLen 19 a ha
  rcases Nat.eq_zero_or_pos m with h0 | h0
  · rw [h.2 h0]; exact hl
  · have := congrArg List.length (h.1 h0)
    rw [List.length_append] at this
    omega
/-- what marking leaves -/
def marksT (k : Int) (n : Nat) : List ByteArray := (List.range n).map fun i : Nat => mtB (k.toNat + i)
theorem marksT_len (k : Int) (n : Nat) : (marksT k n).length = n := by simp [marksT]
theorem marksT_get (k : Int) (n j : Nat) (h : j < n) : (marksT k n).getD j .empty = mtB (k.toNat + j) := by simp [marksT, List.getD, h]
theorem marksT_set (k : Int) (j : Nat) (l : List ByteArray) (h : j < l.length) : ((marksT k j ++ l.drop j).map Value.string).set j (.string (mtB (k.toNat + j))) = (marksT k (j + 1) ++ l.drop (j + 1)).map Value.string := by
  have e1 : marksT k (j + 1) = marksT k j ++ [mtB (k.toNat + j)] := by simp [marksT, List.range_succ]
  rw [e1, List.drop_eq_getElem_cons h, List.map_append, List.set_append_right (h := by rw [List.length_map, marksT_len]; exact Nat.le_refl _)]
  rw [List.length_map, marksT_len]
  simp only [List.map_append, List.map_cons, Nat.sub_self, List.set_cons_zero, List.append_assoc, List.cons_append, List.nil_append]
theorem eq_cellT {base : Nat} {w : World} {a : Option Addr} {n c : Nat} {l : List ByteArray} (h : OwnT base w (.slice a n c) l) (hn : n = l.length) (h0 : 0 < n) : ∃ g, a = some ⟨g, 0, none⟩ ∧ base ≤ g ∧ g < w.heap.size ∧ ∀ j, j < n → (∃ u, w.cell? ⟨g, j, none⟩ = some (.string u)) ∧ w.frozen? ⟨g, j, none⟩ = false := by
  subst hn
  obtain ⟨g, cap', he, _, _, hbg, hgl⟩ := h.there h0
  injection he with he1 _ he3
  subst he1 he3
  refine ⟨g, rfl, hbg, hgl, fun j hj => ⟨⟨l[j], ?_⟩, h.row.frozenAt j⟩⟩
  rw [h.row.cellAt j (by omega), List.getElem?_map, List.getElem?_eq_getElem hj]; rfl
theorem eqStringSO (b1 b2 : Nat) (v1 v2 : Value) (l1 l2 : List ByteArray) (w : World) (h1 : l1.length ≤ 4194304) (h2 : l2.length ≤ 4194304) (o1 : OwnT b1 w v1 l1) (o2 : OwnT b2 w v2 l2) :
    Calls Try.prog 19 #[v1, v2] w fun e w' => e = .returned (.bool (decide (l1 = l2))) ∧ Below w.heap.size w w' := eqStringS b1 v1 l1 b2 v2 l2 w h1 o1 h2 o2
end Go.Proofs.Ytkkgonkpmdlelaa.kit
