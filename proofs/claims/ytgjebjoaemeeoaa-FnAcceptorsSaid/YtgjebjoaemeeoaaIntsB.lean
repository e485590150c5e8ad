/-
  Lists of ints, what is more: small words on worlds and addresses; the measure of a []int; a []int as cells.
-/
import Derived.Test.YtgjebjoaemeeoaaInts
import Derived.Deep.Slices
import Derived.Deep.Strs
namespace Go.Proofs.Ytgjebjoaemeeoaa.kit
open Go.ChangeShapes Go.WideShapes Go.ChangeAt Go.RowKit Go.Deep
set_option linter.unusedVariables false

theorem add_block (p : Addr) (i : Nat) : (p.add i).block = p.block := by unfold Addr.add; split <;> rfl
theorem add_zero' (p : Addr) : p.add 0 = p := by unfold Addr.add; split <;> simp_all
theorem add_mk (g o i : Nat) : (⟨g, o, none⟩ : Addr).add i = ⟨g, o + i, none⟩ := by unfold Addr.add; split <;> simp_all
theorem below1 {w w1 : World} {x : Obj} {B : Nat} (h : Below B (w.alloc x) w1) (hB : w.heap.size ≤ B) : Below w.heap.size w w1 :=
  ((Below.refl w.heap.size w).alloc (Nat.le_refl _) x).trans (h.mono hB)
theorem below2 {w w1 : World} {x y : Obj} {B : Nat} (h : Below B ((w.alloc x).alloc y) w1) (hB : w.heap.size ≤ B) : Below w.heap.size w w1 :=
  (((Below.refl w.heap.size w).alloc (Nat.le_refl _) x).alloc (by simp) y).trans (h.mono hB)
theorem below3 {w w1 : World} {x y z : Obj} {B : Nat} (h : Below B (((w.alloc x).alloc y).alloc z) w1) (hB : w.heap.size ≤ B) : Below w.heap.size w w1 :=
  ((((Below.refl w.heap.size w).alloc (Nat.le_refl _) x).alloc (by simp) y).alloc (by simp; omega) z).trans (h.mono hB)
theorem OwnI.setBelow {base : Nat} {w : World} {v : Value} {l : List Int} (h : OwnI base w v l) {a : Addr} (ha : a.block < base) (u : Value) : OwnI base (w.setCell a u) v l := ownsRow_setCell_below h ha u
/-- a row of the call's own has a slice's shape -/
theorem OwnI.shape {base : Nat} {w : World} {v : Value} {l : List Int} (h : OwnI base w v l) : ∃ a c, v = .slice a l.length c := by obtain ⟨a, c, h1, _⟩ := h.form; exact ⟨a, c, h1⟩
theorem at_low {w : World} {a : Option Addr} {l : List Int} (h : At w a l) : ∀ x : Addr, a = some x → 0 < l.length → x.block < w.heap.size := fun x hx h0 => by
  obtain ⟨x', hx', hlt, _⟩ := h 0 h0
  rw [hx] at hx'; cases hx'; exact hlt
theorem still {w wa wb wc : World} {r1 r2 : Option Nat} (hA : Below w.heap.size w wa) (h1 : wa.grownBy wb r1) (h2 : wb.grownBy wc r2) {b : Nat} (hb : b < w.heap.size) (n1 : r1 = some b → False) (n2 : r2 = some b → False) : wc.heap[b]? = w.heap[b]? :=
  (h2.block b (Nat.lt_of_lt_of_le hb (Nat.le_trans hA.size h1.size)) (fun e => n2 e.symm)).trans ((h1.block b (Nat.lt_of_lt_of_le hb hA.size) (fun e => n1 e.symm)).trans (hA.block b hb))
section
variable {H : Type} {enc : TypeId × Value → H} {w : World} {base : Nat} {spare : Nat → Bool} {held : Bool}
set_option maxRecDepth 100000 in
/-- a []int, as cells -/
theorem open_intS {n : Nat} {c : Value} {x : DataW H × List MemPlace} (h : DataW.trod enc Try.prog w base spare held n 24 [c] = some x) :
    ∃ (a : Option Addr) (cap : Nat) (L : List Int), c = .slice a L.length cap ∧ At w a L ∧ L.length ≤ maxLen ∧ ∀ y ∈ L, (Lit.int .i64 y).wf = true := by
  rcases open_ints Try.underlying24 Try.underlying3 (by kernel_rfl) h with ⟨hcs, _⟩ | ⟨a, len, cap, zs, hcs, hb, hl, hm, hz, hx, hcell, hwz⟩
  · simp only [List.cons.injEq, and_true] at hcs
    exact ⟨none, 0, [], hcs, At.nil _ _, by simp, by simp⟩
  · simp only [List.cons.injEq, and_true] at hcs
    have hzl : len ≤ zs.length := by rw [hz]; split <;> omega
    have hn : (zs.take len).length = len := by rw [List.length_take]; omega
    refine ⟨some a, cap, zs.take len, by rw [hcs, hn], fun j hj => ⟨a, rfl, ?_, ?_⟩, by omega, fun y hy => hwz y (List.mem_of_mem_take hy)⟩
    · have hb := World.block_lt_of_cell? w _ (hcell j (by omega))
      rw [add_block] at hb; exact hb
    · rw [hcell j (by omega)]
      have hj' : j < len := by omega
      simp [List.getD, hj']
end
set_option maxRecDepth 100000 in
theorem szIntS (a : Option Addr) (n c : Nat) (k : Int) (w : World) (hn : n ≤ 9223372036854775807) (hk0 : 0 ≤ k) (hk : k ≤ 1048576) :
    Calls Try.prog 44 #[.slice a n c, .int .i64 k] w fun e w' => e = .returned (.int .i64 (if (n : Int) ≤ k then k - n else -1)) ∧ w = w' := by
  by_cases h : (n : Int) ≤ k
  · rw [if_pos h]
    go_enter Try.func44, Try.ntmps44
    go_wp2_with fail
    go_ret
    exact ⟨rfl, rfl⟩
  · rw [if_neg h]
    go_enter Try.func44, Try.ntmps44
    go_wp2_with fail
    go_ret
    exact ⟨rfl, rfl⟩
/-- what is left behind a machine's measure; -1: too large -/
def left (k : Int) (n1 n2 : Nat) : Int := if (n1 : Int) + n2 ≤ k then k - n1 - n2 else -1
end Go.Proofs.Ytgjebjoaemeeoaa.kit
