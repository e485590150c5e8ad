/-
  Chapter 6: what spec's and impl's ProvesPrefix return.
-/
import Derived.Test.YtbnepdecfnhgoaaDoorS6DigC
namespace Go.Proofs.YtbnepdecfnhgoaaDoor.kit
open Go.ChangeShapes Go.WideShapes Go.ChangeAt Go.RowKit
set_option linter.unusedVariables false
set_option maxRecDepth 100000 in
theorem specProvesPrefix (b : Nat) (v : Value) (L : List Ent) (n d : Int) (w : World) (h : L.length ≤ 2097152) (o : OwnE b w v L) :
    Calls Tryd.prog 20 #[v, .int .i64 n, .int .i64 d] w fun e w' => e = .returned (.bool (provesP L n d)) ∧ Below w.heap.size w w' := by
  have C1 := Lib.hid (specDigestOf b v L n w h o)
  clear o
  by_cases hd : 0 ≤ d
  · have t1 : decide (d ≥ 0) = true := decide_eq_true hd
    have HF := Lib.hid (show provesP L n d = (digO L n == d) by unfold provesP; rw [decide_eq_true hd]; rfl)
    clear hd
    generalize digO L n = x at *
    go_enter Tryd.func20, Tryd.ntmps20
    go_wp2_with (go_at_call 22; refine (C1.out).mono ?_; rintro e w1 ⟨rfl, hb1⟩)
    go_ret
    exact ⟨by rw [HF.out]; rfl, hb1⟩
  · have t1 : decide (d ≥ 0) = false := decide_eq_false hd
    have HF := Lib.hid (show provesP L n d = false by unfold provesP; rw [decide_eq_false hd]; rfl)
    clear hd
    go_enter Tryd.func20, Tryd.ntmps20
    go_wp2_with (go_at_call 22; refine (C1.out).mono ?_; rintro e w1 ⟨rfl, hb1⟩)
    go_ret
    exact ⟨by rw [HF.out]; rfl, Below.refl _ _⟩
set_option maxRecDepth 100000 in
theorem implProvesPrefix (b : Nat) (v : Value) (L : List Ent) (n d : Int) (w : World) (h : L.length ≤ 2097152) (o : OwnE b w v L) (hT : Tab w) :
    Calls Tryd.prog 19 #[v, .int .i64 n, .int .i64 d] w fun e w' => e = .returned (.bool (provesP L n d)) ∧ Below w.heap.size w w' := by
  have C1 := Lib.hid (implDigestOf b v L n w h o hT)
  clear o hT
  by_cases hd : 0 ≤ d
  · have t1 : decide (d ≥ 0) = true := decide_eq_true hd
    have HF := Lib.hid (show provesP L n d = (digO L n == d) by unfold provesP; rw [decide_eq_true hd]; rfl)
    clear hd
    generalize digO L n = x at *
    go_enter Tryd.func19, Tryd.ntmps19
    go_wp2_with (go_at_call 21; refine (C1.out).mono ?_; rintro e w1 ⟨rfl, hb1⟩)
    go_ret
    exact ⟨by rw [HF.out]; rfl, hb1⟩
  · have t1 : decide (d ≥ 0) = false := decide_eq_false hd
    have HF := Lib.hid (show provesP L n d = false by unfold provesP; rw [decide_eq_false hd]; rfl)
    clear hd
    go_enter Tryd.func19, Tryd.ntmps19
    go_wp2_with (go_at_call 21; refine (C1.out).mono ?_; rintro e w1 ⟨rfl, hb1⟩)
    go_ret
    exact ⟨by rw [HF.out]; rfl, Below.refl _ _⟩
end Go.Proofs.YtbnepdecfnhgoaaDoor.kit
