/-
  The specification's draws, on: the cursor's making; a number out of a short list; the draws of chapter 1.
-/
import Derived.Test.YtgjebjoaemeeoaaDraw
namespace Go.Proofs.Ytgjebjoaemeeoaa.kit
open Go.ChangeShapes Go.WideShapes Go.ChangeAt Go.RowKit
set_option linter.unusedVariables false

theorem IsRow.below {k : IntKind} {w w' : World} {B : Nat} {a : Option Addr} {len cap : Nat} {zs : List Int} (h : IsRow k w a len cap zs) (hb : Below B w w') (hlow : ∀ x, a = some x → 0 < zs.length → x.block < B) : IsRow k w' a len cap zs := by
  rcases h with h | ⟨x, hx, h1, h2, h3, h4, h5⟩
  · exact .inl h
  · exact .inr ⟨x, hx, h1, h2, h3, fun i hi => by rw [hb.cell (by rw [block_add]; exact hlow x hx (by omega))]; exact h4 i hi, h5⟩
theorem cur_new {A : Option Addr} {len cap : Nat} {zs : List Int} {w : World} {hh : Int} (hrow : IsRow .u8 w A len cap zs) (hlow : ∀ x, A = some x → 0 < zs.length → x.block < w.heap.size) :
    Cur w.heap.size (w.alloc (.cells #[.slice A len cap, .int .i64 0, .int .i64 hh] 78)) ∧ Below w.heap.size w (w.alloc (.cells #[.slice A len cap, .int .i64 0, .int .i64 hh] 78)) := by
  have hb := (Below.refl w.heap.size w).alloc (Nat.le_refl _) (.cells #[.slice A len cap, .int .i64 0, .int .i64 hh] 78)
  exact ⟨⟨A, len, cap, zs, 0, hh, Nat.zero_le _, heap_alloc_new w _, hrow.below hb hlow, hlow⟩, hb⟩
set_option maxHeartbeats 1000000 in
set_option maxRecDepth 100000 in
theorem new_any (A : Option Addr) (len cap : Nat) (zs : List Int) (w : World) (hrow : IsRow .u8 w A len cap zs) (hlow : ∀ x, A = some x → 0 < zs.length → x.block < w.heap.size) :
    Calls Try.prog 29 #[.slice A len cap] w fun e w' => e = .returned (.pointer (some ⟨w.heap.size, 0, none⟩)) ∧ Cur w.heap.size w' ∧ Below w.heap.size w w' := by
  have hl : len ≤ 9223372036854775807 := by
    rcases hrow with ⟨_, h, _⟩ | ⟨_, _, h1, h2, _⟩
    · omega
    · unfold maxLen at h2; omega
  have HR := Lib.hid hrow
  go_enter Try.func29, Try.ntmps29
  go_wp2_with fail
  go_loop [3, 4] (fun h i => ∃ (k : Nat) (hh : Int), k ≤ len ∧ i = .int .i64 k ∧ h = .int .i64 hh) (fun _ i => len - (intOf i).toNat)
  case atStart => exact ⟨0, _, Nat.zero_le _, rfl, rfl⟩
  case round =>
    obtain ⟨k, hh, hk, rfl, rfl⟩ := hrel
    by_cases hlt : k < len
    · by_cases h4 : k < 4000
      · obtain ⟨x, rfl, h1, h2, h3, h4', h5⟩ : ∃ x, A = some x ∧ len ≤ cap ∧ cap ≤ maxLen ∧ zs.length = cap ∧ (∀ i, i < zs.length → w.cell? (x.add i) = some (.int .u8 (zs.getD i 0))) ∧ ∀ n ∈ zs, (Lit.int .u8 n).wf = true := by
          rcases HR.out with ⟨_, hl, _⟩ | ⟨x, hx, r⟩
          · omega
          · exact ⟨x, hx, r⟩
        obtain ⟨z, hz⟩ : ∃ z, w.cell? (x.add k) = some (.int .u8 z) := ⟨_, h4' k (by omega)⟩
        clear h4' h5 h3
        go_wp2_with fail
        go_round
        case rel => exact ⟨k + 1, _, by omega, by go_num, rfl⟩
        case measure => simp [intOf]; omega
      · go_wp2_with fail
        go_ret
        exact ⟨rfl, cur_new HR.out hlow⟩
    · go_wp2_with fail
      go_ret
      exact ⟨rfl, cur_new HR.out hlow⟩
def fits (y : Int) : Prop := -9223372036854775808 ≤ y ∧ y ≤ 9223372036854775807
set_option maxRecDepth 100000 in
theorem pickInt_any (g b n : Nat) (cs : Array Value) (w : World) (hn : 0 < n) (hn2 : n ≤ 1000) (hc : Cur g w) (hb : w.heap[b]? = some (.cells cs 3 (0, 0))) (hbg : b ≠ g) (hcs : ∀ j, j < n → ∃ y : Int, cs[j]? = some (.int .i64 y) ∧ fits y) :
    Calls Try.prog 31 #[.pointer (some ⟨g, 0, none⟩), .slice (some ⟨b, 0, none⟩) n n] w fun e w' => ∃ y : Int, e = .returned (.int .i64 y) ∧ fits y ∧ Drew g w w' := by
  have C1 := Lib.hid (below_pos g n w (by omega) (by omega) hc)
  have HB := Lib.hid hb
  have HCS := Lib.hid hcs
  clear hb hcs
  have hlt := (Array.getElem?_eq_some_iff.1 HB.out).1
  go_enter Try.func31, Try.ntmps31
  go_wp2_with fail
  refine (C1.out).mono ?_
  rintro e w1 ⟨y, rfl, hy0, hy1, hd⟩
  obtain ⟨j, rfl⟩ := Int.eq_ofNat_of_zero_le hy0
  obtain ⟨v, hv, hfit⟩ := HCS.out j (by omega)
  have hcell : w1.cell? ⟨b, j, none⟩ = some (.int .i64 v) := by
    rw [World.cell?_of_block (a := ⟨b, j, none⟩) (hd.1.block b hlt (fun e => hbg (Option.some.inj e))), cell_of_row w b j _ _ _ HB.out, hv]
  have HF := Lib.hid hfit
  clear hv hfit
  go_wp2_with fail
  go_ret
  exact ⟨v, rfl, HF.out, hd⟩
theorem grown_alloc {a w : World} {row : Option Nat} (h : a.grownBy w row) (o : Obj) : a.grownBy (w.alloc o) row :=
  ⟨h.os, h.tape, h.output, Nat.le_trans h.size (by simp), fun i hi hne => (Below.heap_alloc w o i (Nat.lt_of_lt_of_le hi h.size)).trans (h.block i hi hne)⟩
theorem Cur.grown {g : Nat} {w w' : World} (h : Cur g w) (hg : w.grownBy w' none) : Cur g w' := by
  have hgs := h.lt
  obtain ⟨A, len, cap, zs, i, hh, hi, hb, hrow, hlow⟩ := h
  have hg' : w.grownBy w' (some g) := ⟨hg.os, hg.tape, hg.output, hg.size, fun k hk hne => hg.block k hk (by simp)⟩
  exact ⟨A, len, cap, zs, i, hh, hi, (hg.block g hgs (by simp)).trans hb, hrow.grown hg' hlow hgs, hlow⟩
theorem Drew.alloc {g : Nat} {a w : World} (h : Drew g a w) (o : Obj) : Drew g a (w.alloc o) := ⟨grown_alloc h.1 o, h.2.grown (World.grownBy_alloc w o none)⟩
theorem Drew.refl {g : Nat} {w : World} (h : Cur g w) : Drew g w w := ⟨grown_refl w _, h⟩
theorem OwnB.snoc_int {e : TypeId} {base : Nat} {w : World} {v : Value} {l : List UInt8} {z : Int} (h : w.ownsRow base e 1 v (l.length + 1) ((l.map fun x => Value.int .u8 x.toNat) ++ [Value.int .u8 z])) (h0 : 0 ≤ z) (h1 : z ≤ 255) : OwnB e base w v (l ++ [UInt8.ofNat z.toNat]) :=
  OwnB.snoc h (by simp; omega)
theorem Cur.below {g B : Nat} {w w' : World} (h : Cur g w) (hb : Below B w w') (hg : g < B) : Cur g w' := by
  obtain ⟨A, len, cap, zs, i, hh, hi, hbl, hrow, hlow⟩ := h
  exact ⟨A, len, cap, zs, i, hh, hi, (hb.block g hg).trans hbl, hrow.below hb (fun x hx h0 => Nat.lt_trans (hlow x hx h0) hg), hlow⟩
theorem Drew.below {g : Nat} {a w w' : World} (h : Drew g a w) (hb : Below a.heap.size w w') (hg : g < a.heap.size) : Drew g a w' :=
  ⟨⟨hb.os.trans h.1.os, hb.tape.trans h.1.tape, hb.output.trans h.1.output, Nat.le_trans h.1.size hb.size, fun k hk hne => (hb.block k hk).trans (h.1.block k hk hne)⟩, h.2.below hb hg⟩
theorem own_drew {g : Nat} {w w' : World} {base : Nat} {e : TypeId} {size : Nat} {v : Value} {n : Nat} {xs : List Value} (h : w.ownsRow base e size v n xs) (hd : Drew g w w') (hg : g < base) : w'.ownsRow base e size v n xs :=
  h.kept hd.1 (by
    cases hv : v.ownBlock with
    | none => exact .inl rfl
    | some k => right; intro e; have := (h.lt k hv).1; have := Option.some.inj e; omega)
end Go.Proofs.Ytgjebjoaemeeoaa.kit
