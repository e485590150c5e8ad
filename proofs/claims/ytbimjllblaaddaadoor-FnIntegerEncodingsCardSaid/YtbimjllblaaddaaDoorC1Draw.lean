/-
  The draws of chapter 1: what they may return; below the heap's old size nothing turns.
-/
import Derived.Test.YtbimjllblaaddaaDoorDraw2
namespace Go.Proofs.YtbimjllblaaddaaDoor.kit
open Go.ChangeShapes Go.WideShapes Go.ChangeAt Go.RowKit
set_option linter.unusedVariables false

/-- code came in: a row of bytes below the heap's size -/
structure Code (w : World) (A : Option Addr) (len cap : Nat) (zs : List Int) : Prop where
  row : IsRow .u8 w A len cap zs
  low : ∀ x, A = some x → 0 < zs.length → x.block < w.heap.size
theorem code_of_row {w : World} {A : Option Addr} {len cap : Nat} {zs : List Int} (h : IsRow .u8 w A len cap zs) : Code w A len cap zs :=
  ⟨h, fun x hx h0 => by
    rcases h with ⟨h1, _⟩ | ⟨y, hy, _, _, _, h4, _⟩
    · rw [h1] at hx; cases hx
    · rw [hx] at hy
      obtain rfl := Option.some.inj hy
      have := World.block_lt_of_cell? w _ (h4 0 h0)
      rwa [block_add] at this⟩
theorem Code.below {w w' : World} {A : Option Addr} {len cap : Nat} {zs : List Int} (h : Code w A len cap zs) (hb : Below w.heap.size w w') : Code w' A len cap zs :=
  ⟨h.row.below hb h.low, fun x hx h0 => Nat.lt_of_lt_of_le (h.low x hx h0) hb.size⟩
theorem drew_below {g : Nat} {a w w' : World} (h : Below a.heap.size a w) (hg : a.heap.size ≤ g) (hd : Drew g w w') : Below a.heap.size a w' := grown_below h hd.1 h.size hg
theorem drawEncodeVarint (A : Option Addr) (len cap : Nat) (zs : List Int) (w : World) (hc : Code w A len cap zs) :
    Calls Tryd.prog 7 #[.slice A len cap] w fun e w' => ∃ y : Int, e = .returned (.int .i64 y) ∧ fits y ∧ Below w.heap.size w w' := by
  have C1 := Lib.hid (new_any A len cap zs w hc.row hc.low)
  have C2 := fun W (h : Cur w.heap.size W) => Lib.hid (num_any w.heap.size W h)
  go_enter Tryd.func7, Tryd.ntmps7
  go_wp2_with fail
  refine (C1.out).mono ?_
  rintro e w1 ⟨rfl, hcur, hb1⟩
  go_wp2_with fail
  refine ((C2 _ hcur).out).mono ?_
  rintro e w2 ⟨y, rfl, hf, hd⟩
  go_wp2_with fail
  go_ret
  exact ⟨y, rfl, hf, drew_below hb1 (Nat.le_refl _) hd⟩
theorem drawEncodeHex (A : Option Addr) (len cap : Nat) (zs : List Int) (w : World) (hc : Code w A len cap zs) :
    Calls Tryd.prog 8 #[.slice A len cap] w fun e w' => ∃ l : List UInt8, e = .returned (str l) ∧ l.length ≤ 40 ∧ Below w.heap.size w w' := by
  have C1 := Lib.hid (new_any A len cap zs w hc.row hc.low)
  have C2 := fun W (h : Cur w.heap.size W) => Lib.hid (text_any w.heap.size 40 W (by omega) h)
  go_enter Tryd.func8, Tryd.ntmps8
  go_wp2_with fail
  refine (C1.out).mono ?_
  rintro e w1 ⟨rfl, hcur, hb1⟩
  go_wp2_with fail
  refine ((C2 _ hcur).out).mono ?_
  rintro e w2 ⟨l, rfl, hl, hd⟩
  go_wp2_with fail
  go_ret
  exact ⟨l, rfl, hl, drew_below hb1 (Nat.le_refl _) hd⟩
theorem drawEncodeFixed (A : Option Addr) (len cap : Nat) (zs : List Int) (w : World) (hc : Code w A len cap zs) :
    Calls Tryd.prog 11 #[.slice A len cap] w fun e w' => ∃ x y : Int, e = .returned (.tuple #[.int .i64 x, .int .i64 y]) ∧ fits x ∧ -1 ≤ y ∧ y ≤ 8 ∧ Below w.heap.size w w' := by
  have C1 := Lib.hid (new_any A len cap zs w hc.row hc.low)
  have C2 := fun W (h : Cur w.heap.size W) => Lib.hid (num_any w.heap.size W h)
  have C3 := fun W (h : Cur w.heap.size W) => Lib.hid (below_pos w.heap.size 10 W (by decide) (by decide) h)
  go_enter Tryd.func11, Tryd.ntmps11
  go_wp2_with fail
  refine (C1.out).mono ?_
  rintro e w1 ⟨rfl, hcur, hb1⟩
  go_wp2_with fail
  refine ((C2 _ hcur).out).mono ?_
  rintro e w2 ⟨x, rfl, hf, hd⟩
  go_wp2_with fail
  refine ((C3 _ hd.2).out).mono ?_
  rintro e w3 ⟨y, rfl, hy0, hy1, hd2⟩
  go_wp2_with fail
  go_ret2
  exact ⟨x, y - 1, rfl, hf, by omega, by omega, drew_below hb1 (Nat.le_refl _) (hd.trans hd2)⟩
end Go.Proofs.YtbimjllblaaddaaDoor.kit
