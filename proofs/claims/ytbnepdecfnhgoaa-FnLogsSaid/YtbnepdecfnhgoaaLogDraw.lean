/-
  The draws that the law of logs needs, in one text: the cursor's longer draws, operations, lists of entries, a list and an entry; what is too big.
-/
import Derived.Test.YtbnepdecfnhgoaaDraw
import Derived.Test.YtbnepdecfnhgoaaInts
import Derived.Test.YtbnepdecfnhgoaaKept
import Derived.Deep.DeepCutAuto
import Derived.Deep.RegionWith
import Derived.Test.YtbnepdecfnhgoaaS3Plain
import Derived.Test.YtbnepdecfnhgoaaEnts4
import Derived.Test.YtbnepdecfnhgoaaC1Fixed
namespace Go.Proofs.Ytbnepdecfnhgoaa.kit
open Go.ChangeShapes Go.WideShapes Go.ChangeAt Go.RowKit
set_option linter.unusedVariables false

theorem IsRow.below {k : IntKind} {w w' : World} {B : Nat} {a : Option Addr} {len cap : Nat} {zs : List Int} (h : IsRow k w a len cap zs) (hb : Below B w w') (hlow : ∀ x, a = some x → 0 < zs.length → x.block < B) : IsRow k w' a len cap zs := by
  rcases h with h | ⟨x, hx, h1, h2, h3, h4, h5⟩
  · exact .inl h
  · exact .inr ⟨x, hx, h1, h2, h3, fun i hi => by rw [hb.cell (by rw [block_add]; exact hlow x hx (by omega))]; exact h4 i hi, h5⟩
theorem cur_new {A : Option Addr} {len cap : Nat} {zs : List Int} {w : World} {hh : Int} (hrow : IsRow .u8 w A len cap zs) (hlow : ∀ x, A = some x → 0 < zs.length → x.block < w.heap.size) :
    Cur w.heap.size (w.alloc (.cells #[.slice A len cap, .int .i64 0, .int .i64 hh] 115)) ∧ Below w.heap.size w (w.alloc (.cells #[.slice A len cap, .int .i64 0, .int .i64 hh] 115)) := by
  have hb := (Below.refl w.heap.size w).alloc (Nat.le_refl _) (.cells #[.slice A len cap, .int .i64 0, .int .i64 hh] 115)
  exact ⟨⟨A, len, cap, zs, 0, hh, Nat.zero_le _, heap_alloc_new w _, hrow.below hb hlow, hlow⟩, hb⟩
set_option maxHeartbeats 1000000 in
set_option maxRecDepth 100000 in
theorem new_any (A : Option Addr) (len cap : Nat) (zs : List Int) (w : World) (hrow : IsRow .u8 w A len cap zs) (hlow : ∀ x, A = some x → 0 < zs.length → x.block < w.heap.size) :
    Calls Try.prog 45 #[.slice A len cap] w fun e w' => e = .returned (.pointer (some ⟨w.heap.size, 0, none⟩)) ∧ Cur w.heap.size w' ∧ Below w.heap.size w w' := by
  have hl : len ≤ 9223372036854775807 := by
    rcases hrow with ⟨_, h, _⟩ | ⟨_, _, h1, h2, _⟩
    · omega
    · unfold maxLen at h2; omega
  have HR := Lib.hid hrow
  go_enter Try.func45, Try.ntmps45
  go_wp2_with fail
  go_loop [3, 4] (fun h i => ∃ (k : Nat) (hh : Int), k ≤ len ∧ i = .int .i64 k ∧ h = .int .i64 hh) (fun _ i => len - (intOf i).toNat)
  case atStart => exact ⟨0, _, Nat.zero_le _, rfl, rfl⟩
  case round =>
    obtain ⟨k, hh, hk, rfl, rfl⟩ := hrel
    by_cases hlt : k < len
    · by_cases h4 : k < 4000
      · obtain ⟨x, rfl, h1, h2, h3, h4', h5⟩ : ∃ x, A = some x ∧ len ≤ cap ∧ cap ≤ maxLen ∧ zs.length = cap ∧ (∀ i, i < zs.length → w.cell? (x.add i) = some (.int .u8 (zs.getD i 0))) ∧ ∀ n ∈ zs, (Lit.int .u8 n).wf = true := by
          rcases HR.out with ⟨_, hl, _⟩ | ⟨x, hx, r⟩
          · omega
          · exact ⟨x, hx, r⟩
        obtain ⟨z, hz⟩ : ∃ z, w.cell? (x.add k) = some (.int .u8 z) := ⟨_, h4' k (by omega)⟩
        clear h4' h5 h3
        go_wp2_with fail
        go_round
        case rel => exact ⟨k + 1, _, by omega, by go_num, rfl⟩
        case measure => simp [intOf]; omega
      · go_wp2_with fail
        go_ret
        exact ⟨rfl, cur_new HR.out hlow⟩
    · go_wp2_with fail
      go_ret
      exact ⟨rfl, cur_new HR.out hlow⟩
def fits (y : Int) : Prop := -9223372036854775808 ≤ y ∧ y ≤ 9223372036854775807
set_option maxRecDepth 100000 in
theorem pickInt_any (g b n : Nat) (cs : Array Value) (w : World) (hn : 0 < n) (hn2 : n ≤ 1000) (hc : Cur g w) (hb : w.heap[b]? = some (.cells cs 3 (0, 0))) (hbg : b ≠ g) (hcs : ∀ j, j < n → ∃ y : Int, cs[j]? = some (.int .i64 y) ∧ fits y) :
    Calls Try.prog 69 #[.pointer (some ⟨g, 0, none⟩), .slice (some ⟨b, 0, none⟩) n n] w fun e w' => ∃ y : Int, e = .returned (.int .i64 y) ∧ fits y ∧ Drew g w w' := by
  have C1 := Lib.hid (below_pos g n w (by omega) (by omega) hc)
  have HB := Lib.hid hb
  have HCS := Lib.hid hcs
  clear hb hcs
  have hlt := (Array.getElem?_eq_some_iff.1 HB.out).1
  go_enter Try.func69, Try.ntmps69
  go_wp2_with fail
  refine (C1.out).mono ?_
  rintro e w1 ⟨y, rfl, hy0, hy1, hd⟩
  obtain ⟨j, rfl⟩ := Int.eq_ofNat_of_zero_le hy0
  obtain ⟨v, hv, hfit⟩ := HCS.out j (by omega)
  have hcell : w1.cell? ⟨b, j, none⟩ = some (.int .i64 v) := by
    rw [World.cell?_of_block (a := ⟨b, j, none⟩) (hd.1.block b hlt (fun e => hbg (Option.some.inj e))), cell_of_row w b j _ _ _ HB.out, hv]
  have HF := Lib.hid hfit
  clear hv hfit
  go_wp2_with fail
  go_ret
  exact ⟨v, rfl, HF.out, hd⟩
theorem grown_alloc {a w : World} {row : Option Nat} (h : a.grownBy w row) (o : Obj) : a.grownBy (w.alloc o) row :=
  ⟨h.os, h.tape, h.output, Nat.le_trans h.size (by simp), fun i hi hne => (Below.heap_alloc w o i (Nat.lt_of_lt_of_le hi h.size)).trans (h.block i hi hne)⟩
theorem Cur.grown {g : Nat} {w w' : World} (h : Cur g w) (hg : w.grownBy w' none) : Cur g w' := by
  have hgs := h.lt
  obtain ⟨A, len, cap, zs, i, hh, hi, hb, hrow, hlow⟩ := h
  have hg' : w.grownBy w' (some g) := ⟨hg.os, hg.tape, hg.output, hg.size, fun k hk hne => hg.block k hk (by simp)⟩
  exact ⟨A, len, cap, zs, i, hh, hi, (hg.block g hgs (by simp)).trans hb, hrow.grown hg' hlow hgs, hlow⟩
theorem Drew.alloc {g : Nat} {a w : World} (h : Drew g a w) (o : Obj) : Drew g a (w.alloc o) := ⟨grown_alloc h.1 o, h.2.grown (World.grownBy_alloc w o none)⟩
theorem Drew.refl {g : Nat} {w : World} (h : Cur g w) : Drew g w w := ⟨grown_refl w _, h⟩
theorem OwnB.snoc_int {e : TypeId} {base : Nat} {w : World} {v : Value} {l : List UInt8} {z : Int} (h : w.ownsRow base e 1 v (l.length + 1) ((l.map fun x => Value.int .u8 x.toNat) ++ [Value.int .u8 z])) (h0 : 0 ≤ z) (h1 : z ≤ 255) : OwnB e base w v (l ++ [UInt8.ofNat z.toNat]) :=
  OwnB.snoc h (by simp; omega)
theorem Cur.below {g B : Nat} {w w' : World} (h : Cur g w) (hb : Below B w w') (hg : g < B) : Cur g w' := by
  obtain ⟨A, len, cap, zs, i, hh, hi, hbl, hrow, hlow⟩ := h
  exact ⟨A, len, cap, zs, i, hh, hi, (hb.block g hg).trans hbl, hrow.below hb (fun x hx h0 => Nat.lt_trans (hlow x hx h0) hg), hlow⟩
theorem Drew.below {g : Nat} {a w w' : World} (h : Drew g a w) (hb : Below a.heap.size w w') (hg : g < a.heap.size) : Drew g a w' :=
  ⟨⟨hb.os.trans h.1.os, hb.tape.trans h.1.tape, hb.output.trans h.1.output, Nat.le_trans h.1.size hb.size, fun k hk hne => (hb.block k hk).trans (h.1.block k hk hne)⟩, h.2.below hb hg⟩
theorem own_drew {g : Nat} {w w' : World} {base : Nat} {e : TypeId} {size : Nat} {v : Value} {n : Nat} {xs : List Value} (h : w.ownsRow base e size v n xs) (hd : Drew g w w') (hg : g < base) : w'.ownsRow base e size v n xs :=
  h.kept hd.1 (by
    cases hv : v.ownBlock with
    | none => exact .inl rfl
    | some k => right; intro e; have := (h.lt k hv).1; have := Option.some.inj e; omega)
end Go.Proofs.Ytbnepdecfnhgoaa.kit
namespace Go.Proofs.Ytbnepdecfnhgoaa.kit
open Go.ChangeShapes Go.WideShapes Go.ChangeAt Go.RowKit
set_option linter.unusedVariables false

/-- code came in: a row of bytes below the heap's size -/
structure Code (w : World) (A : Option Addr) (len cap : Nat) (zs : List Int) : Prop where
  row : IsRow .u8 w A len cap zs
  low : ∀ x, A = some x → 0 < zs.length → x.block < w.heap.size
theorem code_of_row {w : World} {A : Option Addr} {len cap : Nat} {zs : List Int} (h : IsRow .u8 w A len cap zs) : Code w A len cap zs :=
  ⟨h, fun x hx h0 => by
    rcases h with ⟨h1, _⟩ | ⟨y, hy, _, _, _, h4, _⟩
    · rw [h1] at hx; cases hx
    · rw [hx] at hy
      obtain rfl := Option.some.inj hy
      have := World.block_lt_of_cell? w _ (h4 0 h0)
      rwa [block_add] at this⟩
theorem Code.below {w w' : World} {A : Option Addr} {len cap : Nat} {zs : List Int} (h : Code w A len cap zs) (hb : Below w.heap.size w w') : Code w' A len cap zs :=
  ⟨h.row.below hb h.low, fun x hx h0 => Nat.lt_of_lt_of_le (h.low x hx h0) hb.size⟩
theorem drew_below {g : Nat} {a w w' : World} (h : Below a.heap.size a w) (hg : a.heap.size ≤ g) (hd : Drew g w w') : Below a.heap.size a w' := grown_below h hd.1 h.size hg
end Go.Proofs.Ytbnepdecfnhgoaa.kit
namespace Go.Proofs.Ytbnepdecfnhgoaa.kit
open Go.ChangeShapes Go.WideShapes Go.ChangeAt Go.RowKit
set_option linter.unusedVariables false
set_option linter.unusedSimpArgs false

theorem OwnI.drew {g : Nat} {w w' : World} {base : Nat} {v : Value} {l : List Int} (h : OwnI base w v l) (hd : Drew g w w') (hg : g < base) : OwnI base w' v l := own_drew h.row hd hg
theorem OwnI.source {base : Nat} {w : World} {v : Value} {l : List Int} (h : OwnI base w v l) : SrcI w.heap.size w v l := by
  rcases h.2 with ⟨rfl, h0⟩ | ⟨g, c, cur, rfl, hg, hh, hn, hm, _⟩
  · exact .inl ⟨rfl, List.eq_nil_of_length_eq_zero h0⟩
  · refine SrcI.row (Array.getElem?_eq_some_iff.1 hh).1 rfl (fun j hj => ?_)
    rw [h.row.cellAt j (by omega), List.getElem?_map, List.getElem?_eq_getElem hj]
    simp [List.getD, hj]
theorem once_any (g : Nat) (n : Int) (w : World) (hn : 1 ≤ n) (hn2 : n ≤ 256) (hc : Cur g w) :
    Calls Try.prog 96 #[.pointer (some ⟨g, 0, none⟩), .int .i64 n] w fun e w' => ∃ b : Bool, e = .returned (.bool b) ∧ Drew g w w' := by
  have C1 := Lib.hid (below_small g n w hn hn2 hc)
  go_enter Try.func96, Try.ntmps96
  go_wp2_with fail
  refine (C1.out).mono ?_
  rintro e w1 ⟨y, rfl, _, _, hd⟩
  go_wp2_with fail
  go_ret
  exact ⟨_, rfl, hd⟩
end Go.Proofs.Ytbnepdecfnhgoaa.kit
namespace Go.Proofs.Ytbnepdecfnhgoaa.kit
open Go.ChangeShapes Go.WideShapes Go.ChangeAt Go.RowKit
set_option linter.unusedVariables false
set_option linter.unusedSimpArgs false

theorem OpAt.grown {w w' : World} {b g : Nat} {c s k o d v : Int} (h : OpAt w b c s k o d v) (hg : w.grownBy w' (some g)) (hne : b ≠ g) : OpAt w' b c s k o d v := by
  have hb : w'.heap[b]? = w.heap[b]? := hg.block b h.lt (fun e => hne (Option.some.inj e))
  have hc := fun q => World.cell?_of_block (a := ⟨b, q, none⟩) hb
  have hf := fun q => World.frozen?_of_block (a := ⟨b, q, none⟩) hb
  exact ⟨(hc 0).trans h.c0, (hc 1).trans h.c1, (hc 2).trans h.c2, (hc 3).trans h.c3, (hc 4).trans h.c4, (hc 5).trans h.c5, (hf 0).trans h.f0, (hf 1).trans h.f1, (hf 2).trans h.f2, (hf 3).trans h.f3, (hf 4).trans h.f4, (hf 5).trans h.f5⟩
theorem OpAt.set0 {w : World} {b : Nat} {c s k o d v : Int} (h : OpAt w b c s k o d v) (x : Int) : OpAt (w.setCell ⟨b, 0, none⟩ (.int .i64 x)) b x s k o d v := by
  obtain ⟨c0, c1, c2, c3, c4, c5, f0, f1, f2, f3, f4, f5⟩ := h
  constructor <;> go_simp
theorem OpAt.set1 {w : World} {b : Nat} {c s k o d v : Int} (h : OpAt w b c s k o d v) (x : Int) : OpAt (w.setCell ⟨b, 1, none⟩ (.int .i64 x)) b c x k o d v := by
  obtain ⟨c0, c1, c2, c3, c4, c5, f0, f1, f2, f3, f4, f5⟩ := h
  constructor <;> go_simp
theorem OpAt.set3 {w : World} {b : Nat} {c s k o d v : Int} (h : OpAt w b c s k o d v) (x : Int) : OpAt (w.setCell ⟨b, 3, none⟩ (.int .i64 x)) b c s k x d v := by
  obtain ⟨c0, c1, c2, c3, c4, c5, f0, f1, f2, f3, f4, f5⟩ := h
  constructor <;> go_simp
theorem OpAt.set5 {w : World} {b : Nat} {c s k o d v : Int} (h : OpAt w b c s k o d v) (x : Int) : OpAt (w.setCell ⟨b, 5, none⟩ (.int .i64 x)) b c s k o d x := by
  obtain ⟨c0, c1, c2, c3, c4, c5, f0, f1, f2, f3, f4, f5⟩ := h
  constructor <;> go_simp
theorem OpAt.other {w : World} {b b' q : Nat} {c s k o d v : Int} (h : OpAt w b c s k o d v) (hne : b ≠ b') (u : Value) : OpAt (w.setCell ⟨b', q, none⟩ u) b c s k o d v := by
  have hb : (w.setCell ⟨b', q, none⟩ u).heap[b]? = w.heap[b]? := Below.heap_setCell _ _ _ _ (by simpa using hne)
  have hc := fun q => World.cell?_of_block (a := ⟨b, q, none⟩) hb
  have hf := fun q => World.frozen?_of_block (a := ⟨b, q, none⟩) hb
  exact ⟨(hc 0).trans h.c0, (hc 1).trans h.c1, (hc 2).trans h.c2, (hc 3).trans h.c3, (hc 4).trans h.c4, (hc 5).trans h.c5, (hf 0).trans h.f0, (hf 1).trans h.f1, (hf 2).trans h.f2, (hf 3).trans h.f3, (hf 4).trans h.f4, (hf 5).trans h.f5⟩
/-- a store into a block of one's own -/
theorem Drew.set {g b q : Nat} {a w : World} (h : Drew g a w) (hb : a.heap.size ≤ b) (hg : g < a.heap.size) (u : Value) : Drew g a (w.setCell ⟨b, q, none⟩ u) :=
  h.below ((Below.refl _ _).setCell (p := ⟨b, q, none⟩) hb u) hg
theorem Drew.set6 {g b : Nat} {a w : World} (h : Drew g a w) (hb : a.heap.size ≤ b) (hg : g < a.heap.size) (x0 x1 x2 x3 x4 x5 : Value) :
    Drew g a ((((((w.setCell ⟨b, 0, none⟩ x0).setCell ⟨b, 1, none⟩ x1).setCell ⟨b, 2, none⟩ x2).setCell ⟨b, 3, none⟩ x3).setCell ⟨b, 4, none⟩ x4).setCell ⟨b, 5, none⟩ x5) :=
  (((((h.set hb hg x0).set hb hg x1).set hb hg x2).set hb hg x3).set hb hg x4).set hb hg x5
theorem litsI (zs : List Int) (h : ∀ y ∈ zs, fits y) : ∀ j, j < zs.length → ∃ y : Int, ((zs.map (Value.int .i64)).toArray)[j]? = some (.int .i64 y) ∧ fits y := fun j hj => ⟨zs[j], by simp [hj], h _ (List.getElem_mem hj)⟩
theorem pick_lits {g : Nat} {w : World} (hc : Cur g w) (zs : List Int) (h0 : 0 < zs.length) (h1 : zs.length ≤ 1000) (h : ∀ y ∈ zs, fits y) :
    Calls Try.prog 69 #[.pointer (some ⟨g, 0, none⟩), .slice (some ⟨w.heap.size, 0, none⟩) zs.length zs.length] (w.alloc (.cells ((zs.map (Value.int .i64)).toArray) 3)) fun e w' => ∃ y : Int, e = .returned (.int .i64 y) ∧ fits y ∧ Drew g w w' := by
  have hD := (Drew.refl hc).alloc (.cells ((zs.map (Value.int .i64)).toArray) 3)
  exact (pickInt_any g w.heap.size zs.length _ _ h0 h1 hD.2 (heap_alloc_new w _) (by have := hc.lt; omega) (litsI zs h)).mono fun e w' ⟨y, he, hf, hd⟩ => ⟨y, he, hf, hD.trans hd⟩
set_option maxRecDepth 100000 in
set_option maxHeartbeats 4000000 in
theorem op_any (g : Nat) (w : World) (hc : Cur g w) :
    Calls Try.prog 87 #[.pointer (some ⟨g, 0, none⟩)] w fun e w' => ∃ c s k o d v : Int, e = .returned (opV c s k o d v) ∧ Drew g w w' := by
  unfold opV
  have hgs := hc.lt
  have hD0 := (Drew.refl hc).alloc (.cells #[.int .i64 0, .int .i64 0, .int .i64 0, .int .i64 0, .int .i64 0, .int .i64 0] 29)
  have hO0 : OpAt (w.alloc (.cells #[.int .i64 0, .int .i64 0, .int .i64 0, .int .i64 0, .int .i64 0, .int .i64 0] 29)) w.heap.size 0 0 0 0 0 0 := OpAt.alloc w
  have hz0 : w.heap.size < (w.alloc (.cells #[.int .i64 0, .int .i64 0, .int .i64 0, .int .i64 0, .int .i64 0, .int .i64 0] 29)).heap.size := by simp
  have C3 := fun W (h : Cur g W) => Lib.hid (below_small g 3 W (by decide) (by decide) h)
  have C5 := fun W (h : Cur g W) => Lib.hid (below_small g 5 W (by decide) (by decide) h)
  have CT := fun W (h : Cur g W) => Lib.hid (below_small g 10 W (by decide) (by decide) h)
  have CO := fun W (h : Cur g W) => Lib.hid (once_any g 3 W (by decide) (by decide) h)
  go_enter Try.func87, Try.ntmps87
  go_wp2_with fail
  refine ((C3 _ hD0.2).out).mono ?_
  rintro e w1 ⟨y1, rfl, ha1, hb1, hd1⟩
  have hD1 := hD0.trans hd1
  have hO1 := hO0.grown hd1.1 (by omega)
  go_wp2_with fail
  refine ((C5 _ hD1.2).out).mono ?_
  rintro e w2 ⟨y2, rfl, ha2, hb2, hd2⟩
  have hD2 := hD1.trans hd2
  have hO2 := hO1.grown hd2.1 (by omega)
  have hw2 : IntKind.i64.wrap (1 + y2) = 1 + y2 := IntWalk.i64_in _ (by omega)
  go_wp2_with fail
  refine ((C3 _ hD2.2).out).mono ?_
  rintro e w3 ⟨y3, rfl, ha3, hb3, hd3⟩
  have hD3 := hD2.trans hd3
  have hO3 := hO2.grown hd3.1 (by omega)
  go_wp2_with fail
  refine ((CT _ hD3.2).out).mono ?_
  rintro e w4 ⟨y4, rfl, ha4, hb4, hd4⟩
  have hD4 := hD3.trans hd4
  have hO4 := hO3.grown hd4.1 (by omega)
  have hz4 : w.heap.size < w4.heap.size := hO4.lt
  have hD5 := hD4.alloc (.cells #[.int .i64 y1, .int .i64 (1 + y2), .int .i64 1, .int .i64 y3, .int .i64 0, .int .i64 y4] 29)
  have hP5 : OpAt (w4.alloc (.cells #[.int .i64 y1, .int .i64 (1 + y2), .int .i64 1, .int .i64 y3, .int .i64 0, .int .i64 y4] 29)) w4.heap.size y1 (1 + y2) 1 y3 0 y4 := OpAt.alloc w4
  have hO5 := hO4.later ((Below.refl w4.heap.size w4).alloc (Nat.le_refl _) (.cells #[.int .i64 y1, .int .i64 (1 + y2), .int .i64 1, .int .i64 y3, .int .i64 0, .int .i64 y4] 29))
  clear hD0 hD1 hD2 hD3 hO0 hO1 hO2 hO3 hO4 hd1 hd2 hd3 hd4 hz0 C3 C5 CT
  go_wp2_with fail
  refine ((CO _ hD5.2).out).mono ?_
  rintro e w6 ⟨b, rfl, hd6⟩
  have hD6 := hD5.trans hd6
  have hP := hP5.grown hd6.1 (by omega)
  have hO := hO5.grown hd6.1 (by omega)
  clear hD5 hP5 hO5 hd6 hw2 CO
  have hne : w4.heap.size ≠ w.heap.size := by omega
  have hne' : w.heap.size ≠ w4.heap.size := by omega
  obtain ⟨p, hp⟩ : ∃ p, p = w4.heap.size := ⟨_, rfl⟩
  rw [← hp] at hP hne hne' ⊢
  have hpz : w.heap.size < p := by omega
  clear hp hz4 hD4
  cases b
  · skip
    have q0 := hP.c0
    have q1 := hP.c1
    have q2 := hP.c2
    have q3 := hP.c3
    have q4 := hP.c4
    have q5 := hP.c5
    obtain ⟨r0, r1, r2, r3, r4, r5, z0, z1, z2, z3, z4, z5⟩ := hO
    go_wp2_with fail
    refine bodyPost_ret (v := .agg #[.int .i64 y1, .int .i64 (1 + y2), .int .i64 1, .int .i64 y3, .int .i64 0, .int .i64 y4]) (by simp [results, Try.results87, go_sem, r0, r1, r2, r3, r4, r5]) rfl ?_
    exact ⟨_, _, _, _, _, _, rfl, hD6.set6 (Nat.le_refl _) hgs _ _ _ _ _ _⟩
  · have hpq := hP.c2
    have hpf := hP.f2
    go_wp2_with fail
    obtain ⟨w7, hw7⟩ : ∃ W, W = w6.setCell ⟨p, 2, none⟩ (.int .i64 2) := ⟨_, rfl⟩
    rw [← hw7]
    have hP7 : OpAt w7 p y1 (1 + y2) 2 y3 0 y4 := by rw [hw7]; exact hP.setKind 2
    have hO7 : OpAt w7 w.heap.size 0 0 0 0 0 0 := by rw [hw7]; exact hO.other hne' _
    have hD7 : Drew g w w7 := by rw [hw7]; exact hD6.set (by omega) hgs _
    have hpz7 := hP7.lt
    have hs7 : w7.heap.size = w6.heap.size := by rw [hw7, World.size_setCell]
    clear hw7 hP hO hD6 hpq hpf
    have j0 := pick_lits hD7.2 [0, 0, 1, 5, 9] (by decide) (by decide) (by unfold fits; decide)
    simp only [List.map_cons, List.map_nil, List.length_cons, List.length_nil, Nat.reduceAdd, hs7] at j0
    have J := Lib.hid j0
    clear j0
    refine (J.out).mono ?_
    rintro e w8 ⟨y5, rfl, hf5, hd8⟩
    have hP8 := hP7.grown hd8.1 (by have := hD7.1.size; omega)
    have hO8 := hO7.grown hd8.1 (by omega)
    have hD8 := hD7.trans hd8
    have hpq := hP8.c4
    have hpf := hP8.f4
    clear hP7 hO7 hD7 hd8 J
    go_upto_region 5 with (fail)
    obtain ⟨w9, hw9⟩ : ∃ W, W = w8.setCell ⟨p, 4, none⟩ (.int .i64 y5) := ⟨_, rfl⟩
    have hP : OpAt w9 p y1 (1 + y2) 2 y3 y5 y4 := by rw [hw9]; exact hP8.setOld y5
    have hO : OpAt w9 w.heap.size 0 0 0 0 0 0 := by rw [hw9]; exact hO8.other hne' _
    have hD9 : Drew g w w9 := by rw [hw9]; exact hD8.set (by omega) hgs _
    rw [← hw9]
    clear hw9 hP8 hO8 hD8 hpq hpf
    have q0 := hP.c0
    have q1 := hP.c1
    have q2 := hP.c2
    have q3 := hP.c3
    have q4 := hP.c4
    have q5 := hP.c5
    obtain ⟨r0, r1, r2, r3, r4, r5, z0, z1, z2, z3, z4, z5⟩ := hO
    go_wp2_with fail
    refine bodyPost_ret (v := .agg #[.int .i64 y1, .int .i64 (1 + y2), .int .i64 2, .int .i64 y3, .int .i64 y5, .int .i64 y4]) (by simp [results, Try.results87, go_sem, r0, r1, r2, r3, r4, r5]) rfl ?_
    exact ⟨_, _, _, _, _, _, rfl, hD9.set6 (Nat.le_refl _) hgs _ _ _ _ _ _⟩
set_option maxRecDepth 100000 in
set_option maxHeartbeats 8000000 in
theorem anyOp_any (g : Nat) (w : World) (hc : Cur g w) :
    Calls Try.prog 47 #[.pointer (some ⟨g, 0, none⟩)] w fun e w' => ∃ c s k o d v : Int, e = .returned (opV c s k o d v) ∧ Drew g w w' := by
  unfold opV
  have hgs := hc.lt
  have hD0 := (Drew.refl hc).alloc (.cells #[.int .i64 0, .int .i64 0, .int .i64 0, .int .i64 0, .int .i64 0, .int .i64 0] 29)
  have hO0 : OpAt (w.alloc (.cells #[.int .i64 0, .int .i64 0, .int .i64 0, .int .i64 0, .int .i64 0, .int .i64 0] 29)) w.heap.size 0 0 0 0 0 0 := OpAt.alloc w
  have hz0 : w.heap.size < (w.alloc (.cells #[.int .i64 0, .int .i64 0, .int .i64 0, .int .i64 0, .int .i64 0, .int .i64 0] 29)).heap.size := by simp
  have C1 := Lib.hid (op_any g _ hD0.2)
  have CB := fun W (h : Cur g W) => Lib.hid (below_small g 14 W (by decide) (by decide) h)
  go_enter Try.func47, Try.ntmps47
  go_wp2_with fail
  refine (C1.out).mono ?_
  rintro e w1 ⟨c, s, k, o, d, v, rfl, hd1⟩
  unfold opV
  have hD1 := hD0.trans hd1
  have hO1 := hO0.grown hd1.1 (by omega)
  have hz1 : w.heap.size < w1.heap.size := hO1.lt
  have hD2 := hD1.alloc (.cells #[.int .i64 c, .int .i64 s, .int .i64 k, .int .i64 o, .int .i64 d, .int .i64 v] 29)
  have hP2 : OpAt (w1.alloc (.cells #[.int .i64 c, .int .i64 s, .int .i64 k, .int .i64 o, .int .i64 d, .int .i64 v] 29)) w1.heap.size c s k o d v := OpAt.alloc w1
  have hO2 := hO1.later ((Below.refl w1.heap.size w1).alloc (Nat.le_refl _) (.cells #[.int .i64 c, .int .i64 s, .int .i64 k, .int .i64 o, .int .i64 d, .int .i64 v] 29))
  clear hD0 hO0 hz0 hd1 hO1 C1
  go_wp2_with fail
  refine ((CB _ hD2.2).out).mono ?_
  rintro e w3 ⟨y, rfl, hy0, hy1, hd3⟩
  have hD3 := hD2.trans hd3
  have hP3 := hP2.grown hd3.1 (by omega)
  have hO3 := hO2.grown hd3.1 (by omega)
  have hne : w1.heap.size ≠ w.heap.size := by omega
  have hne' : w.heap.size ≠ w1.heap.size := by omega
  obtain ⟨p, hp⟩ : ∃ p, p = w1.heap.size := ⟨_, rfl⟩
  rw [← hp] at hP3 hne hne' ⊢
  have hpz : w.heap.size < p := by omega
  have hpl := hP3.lt
  clear hp hz1 hD1 hD2 hP2 hO2 hd3 CB
  have hy : y = 0 ∨ y = 1 ∨ y = 2 ∨ y = 3 ∨ y = 4 ∨ y = 5 ∨ 6 ≤ y := by omega
  rcases hy with rfl | rfl | rfl | rfl | rfl | rfl | hy
  · clear hy0 hy1
    have j0 := pick_lits hD3.2 [-1, 2, 3] (by decide) (by decide) (by unfold fits; decide)
    simp only [List.map_cons, List.map_nil, List.length_cons, List.length_nil, Nat.reduceAdd] at j0
    have J := Lib.hid j0
    clear j0
    go_wp2_with fail
    refine (J.out).mono ?_
    rintro e w8 ⟨y5, rfl, hf5, hd8⟩
    have hP8 := hP3.grown hd8.1 (by have := hD3.1.size; omega)
    have hO8 := hO3.grown hd8.1 (by omega)
    have hD8 := hD3.trans hd8
    have hpq := hP8.c0
    have hpf := hP8.f0
    clear hP3 hO3 hD3 hd8 J
    go_upto_region 15 with (fail)
    obtain ⟨w9, hw9⟩ : ∃ W, W = w8.setCell ⟨p, 0, none⟩ (.int .i64 y5) := ⟨_, rfl⟩
    have hP := (hw9 ▸ hP8.set0 y5 : OpAt w9 p _ _ _ _ _ _)
    have hO := (hw9 ▸ hO8.other hne' _ : OpAt w9 w.heap.size _ _ _ _ _ _)
    have hD9 : Drew g w w9 := hw9 ▸ hD8.set (by omega) hgs _
    rw [← hw9]
    clear hw9 hP8 hO8 hD8 hpq hpf
    obtain ⟨x0, x1, x2, x3, x4, x5, hP⟩ : ∃ x0 x1 x2 x3 x4 x5, OpAt w9 p x0 x1 x2 x3 x4 x5 := ⟨_, _, _, _, _, _, hP⟩
    have q0 := hP.c0
    have q1 := hP.c1
    have q2 := hP.c2
    have q3 := hP.c3
    have q4 := hP.c4
    have q5 := hP.c5
    obtain ⟨r0, r1, r2, r3, r4, r5, z0, z1, z2, z3, z4, z5⟩ := hO
    go_wp2_with fail
    refine bodyPost_ret (v := .agg #[.int .i64 x0, .int .i64 x1, .int .i64 x2, .int .i64 x3, .int .i64 x4, .int .i64 x5]) (by simp [results, Try.results47, go_sem, r0, r1, r2, r3, r4, r5]) rfl ?_
    exact ⟨_, _, _, _, _, _, rfl, hD9.set6 (Nat.le_refl _) hgs _ _ _ _ _ _⟩
  · clear hy0 hy1
    have j0 := pick_lits hD3.2 [0, 99, 100] (by decide) (by decide) (by unfold fits; decide)
    simp only [List.map_cons, List.map_nil, List.length_cons, List.length_nil, Nat.reduceAdd] at j0
    have J := Lib.hid j0
    clear j0
    go_wp2_with fail
    refine (J.out).mono ?_
    rintro e w8 ⟨y5, rfl, hf5, hd8⟩
    have hP8 := hP3.grown hd8.1 (by have := hD3.1.size; omega)
    have hO8 := hO3.grown hd8.1 (by omega)
    have hD8 := hD3.trans hd8
    have hpq := hP8.c1
    have hpf := hP8.f1
    clear hP3 hO3 hD3 hd8 J
    go_upto_region 15 with (fail)
    obtain ⟨w9, hw9⟩ : ∃ W, W = w8.setCell ⟨p, 1, none⟩ (.int .i64 y5) := ⟨_, rfl⟩
    have hP := (hw9 ▸ hP8.set1 y5 : OpAt w9 p _ _ _ _ _ _)
    have hO := (hw9 ▸ hO8.other hne' _ : OpAt w9 w.heap.size _ _ _ _ _ _)
    have hD9 : Drew g w w9 := hw9 ▸ hD8.set (by omega) hgs _
    rw [← hw9]
    clear hw9 hP8 hO8 hD8 hpq hpf
    obtain ⟨x0, x1, x2, x3, x4, x5, hP⟩ : ∃ x0 x1 x2 x3 x4 x5, OpAt w9 p x0 x1 x2 x3 x4 x5 := ⟨_, _, _, _, _, _, hP⟩
    have q0 := hP.c0
    have q1 := hP.c1
    have q2 := hP.c2
    have q3 := hP.c3
    have q4 := hP.c4
    have q5 := hP.c5
    obtain ⟨r0, r1, r2, r3, r4, r5, z0, z1, z2, z3, z4, z5⟩ := hO
    go_wp2_with fail
    refine bodyPost_ret (v := .agg #[.int .i64 x0, .int .i64 x1, .int .i64 x2, .int .i64 x3, .int .i64 x4, .int .i64 x5]) (by simp [results, Try.results47, go_sem, r0, r1, r2, r3, r4, r5]) rfl ?_
    exact ⟨_, _, _, _, _, _, rfl, hD9.set6 (Nat.le_refl _) hgs _ _ _ _ _ _⟩
  · clear hy0 hy1
    have J := Lib.hid (below_small g 4 w3 (by decide) (by decide) hD3.2)
    go_wp2_with fail
    refine (J.out).mono ?_
    rintro e w8 ⟨y5, rfl, hf5, hf6, hd8⟩
    have hP8 := hP3.grown hd8.1 (by have := hD3.1.size; omega)
    have hO8 := hO3.grown hd8.1 (by omega)
    have hD8 := hD3.trans hd8
    have hpq := hP8.c2
    have hpf := hP8.f2
    clear hP3 hO3 hD3 hd8 J
    go_upto_region 15 with (fail)
    obtain ⟨w9, hw9⟩ : ∃ W, W = w8.setCell ⟨p, 2, none⟩ (.int .i64 y5) := ⟨_, rfl⟩
    have hP := (hw9 ▸ hP8.setKind y5 : OpAt w9 p _ _ _ _ _ _)
    have hO := (hw9 ▸ hO8.other hne' _ : OpAt w9 w.heap.size _ _ _ _ _ _)
    have hD9 : Drew g w w9 := hw9 ▸ hD8.set (by omega) hgs _
    rw [← hw9]
    clear hw9 hP8 hO8 hD8 hpq hpf
    obtain ⟨x0, x1, x2, x3, x4, x5, hP⟩ : ∃ x0 x1 x2 x3 x4 x5, OpAt w9 p x0 x1 x2 x3 x4 x5 := ⟨_, _, _, _, _, _, hP⟩
    have q0 := hP.c0
    have q1 := hP.c1
    have q2 := hP.c2
    have q3 := hP.c3
    have q4 := hP.c4
    have q5 := hP.c5
    obtain ⟨r0, r1, r2, r3, r4, r5, z0, z1, z2, z3, z4, z5⟩ := hO
    go_wp2_with fail
    refine bodyPost_ret (v := .agg #[.int .i64 x0, .int .i64 x1, .int .i64 x2, .int .i64 x3, .int .i64 x4, .int .i64 x5]) (by simp [results, Try.results47, go_sem, r0, r1, r2, r3, r4, r5]) rfl ?_
    exact ⟨_, _, _, _, _, _, rfl, hD9.set6 (Nat.le_refl _) hgs _ _ _ _ _ _⟩
  · clear hy0 hy1
    have j0 := pick_lits hD3.2 [-1, 3] (by decide) (by decide) (by unfold fits; decide)
    simp only [List.map_cons, List.map_nil, List.length_cons, List.length_nil, Nat.reduceAdd] at j0
    have J := Lib.hid j0
    clear j0
    go_wp2_with fail
    refine (J.out).mono ?_
    rintro e w8 ⟨y5, rfl, hf5, hd8⟩
    have hP8 := hP3.grown hd8.1 (by have := hD3.1.size; omega)
    have hO8 := hO3.grown hd8.1 (by omega)
    have hD8 := hD3.trans hd8
    have hpq := hP8.c3
    have hpf := hP8.f3
    clear hP3 hO3 hD3 hd8 J
    go_upto_region 15 with (fail)
    obtain ⟨w9, hw9⟩ : ∃ W, W = w8.setCell ⟨p, 3, none⟩ (.int .i64 y5) := ⟨_, rfl⟩
    have hP := (hw9 ▸ hP8.set3 y5 : OpAt w9 p _ _ _ _ _ _)
    have hO := (hw9 ▸ hO8.other hne' _ : OpAt w9 w.heap.size _ _ _ _ _ _)
    have hD9 : Drew g w w9 := hw9 ▸ hD8.set (by omega) hgs _
    rw [← hw9]
    clear hw9 hP8 hO8 hD8 hpq hpf
    obtain ⟨x0, x1, x2, x3, x4, x5, hP⟩ : ∃ x0 x1 x2 x3 x4 x5, OpAt w9 p x0 x1 x2 x3 x4 x5 := ⟨_, _, _, _, _, _, hP⟩
    have q0 := hP.c0
    have q1 := hP.c1
    have q2 := hP.c2
    have q3 := hP.c3
    have q4 := hP.c4
    have q5 := hP.c5
    obtain ⟨r0, r1, r2, r3, r4, r5, z0, z1, z2, z3, z4, z5⟩ := hO
    go_wp2_with fail
    refine bodyPost_ret (v := .agg #[.int .i64 x0, .int .i64 x1, .int .i64 x2, .int .i64 x3, .int .i64 x4, .int .i64 x5]) (by simp [results, Try.results47, go_sem, r0, r1, r2, r3, r4, r5]) rfl ?_
    exact ⟨_, _, _, _, _, _, rfl, hD9.set6 (Nat.le_refl _) hgs _ _ _ _ _ _⟩
  · clear hy0 hy1
    have j0 := pick_lits hD3.2 [-1, 9, 10] (by decide) (by decide) (by unfold fits; decide)
    simp only [List.map_cons, List.map_nil, List.length_cons, List.length_nil, Nat.reduceAdd] at j0
    have J := Lib.hid j0
    clear j0
    go_wp2_with fail
    refine (J.out).mono ?_
    rintro e w8 ⟨y5, rfl, hf5, hd8⟩
    have hP8 := hP3.grown hd8.1 (by have := hD3.1.size; omega)
    have hO8 := hO3.grown hd8.1 (by omega)
    have hD8 := hD3.trans hd8
    have hpq := hP8.c5
    have hpf := hP8.f5
    clear hP3 hO3 hD3 hd8 J
    go_upto_region 15 with (fail)
    obtain ⟨w9, hw9⟩ : ∃ W, W = w8.setCell ⟨p, 5, none⟩ (.int .i64 y5) := ⟨_, rfl⟩
    have hP := (hw9 ▸ hP8.set5 y5 : OpAt w9 p _ _ _ _ _ _)
    have hO := (hw9 ▸ hO8.other hne' _ : OpAt w9 w.heap.size _ _ _ _ _ _)
    have hD9 : Drew g w w9 := hw9 ▸ hD8.set (by omega) hgs _
    rw [← hw9]
    clear hw9 hP8 hO8 hD8 hpq hpf
    obtain ⟨x0, x1, x2, x3, x4, x5, hP⟩ : ∃ x0 x1 x2 x3 x4 x5, OpAt w9 p x0 x1 x2 x3 x4 x5 := ⟨_, _, _, _, _, _, hP⟩
    have q0 := hP.c0
    have q1 := hP.c1
    have q2 := hP.c2
    have q3 := hP.c3
    have q4 := hP.c4
    have q5 := hP.c5
    obtain ⟨r0, r1, r2, r3, r4, r5, z0, z1, z2, z3, z4, z5⟩ := hO
    go_wp2_with fail
    refine bodyPost_ret (v := .agg #[.int .i64 x0, .int .i64 x1, .int .i64 x2, .int .i64 x3, .int .i64 x4, .int .i64 x5]) (by simp [results, Try.results47, go_sem, r0, r1, r2, r3, r4, r5]) rfl ?_
    exact ⟨_, _, _, _, _, _, rfl, hD9.set6 (Nat.le_refl _) hgs _ _ _ _ _ _⟩
  · clear hy0 hy1
    have j0 := pick_lits hD3.2 [-1, 0, 9, 10] (by decide) (by decide) (by unfold fits; decide)
    simp only [List.map_cons, List.map_nil, List.length_cons, List.length_nil, Nat.reduceAdd] at j0
    have J := Lib.hid j0
    clear j0
    go_wp2_with fail
    refine (J.out).mono ?_
    rintro e w8 ⟨y5, rfl, hf5, hd8⟩
    have hP8 := hP3.grown hd8.1 (by have := hD3.1.size; omega)
    have hO8 := hO3.grown hd8.1 (by omega)
    have hD8 := hD3.trans hd8
    have hpq := hP8.c4
    have hpf := hP8.f4
    clear hP3 hO3 hD3 hd8 J
    go_upto_region 15 with (fail)
    obtain ⟨w9, hw9⟩ : ∃ W, W = w8.setCell ⟨p, 4, none⟩ (.int .i64 y5) := ⟨_, rfl⟩
    have hP := (hw9 ▸ hP8.setOld y5 : OpAt w9 p _ _ _ _ _ _)
    have hO := (hw9 ▸ hO8.other hne' _ : OpAt w9 w.heap.size _ _ _ _ _ _)
    have hD9 : Drew g w w9 := hw9 ▸ hD8.set (by omega) hgs _
    rw [← hw9]
    clear hw9 hP8 hO8 hD8 hpq hpf
    obtain ⟨x0, x1, x2, x3, x4, x5, hP⟩ : ∃ x0 x1 x2 x3 x4 x5, OpAt w9 p x0 x1 x2 x3 x4 x5 := ⟨_, _, _, _, _, _, hP⟩
    have q0 := hP.c0
    have q1 := hP.c1
    have q2 := hP.c2
    have q3 := hP.c3
    have q4 := hP.c4
    have q5 := hP.c5
    obtain ⟨r0, r1, r2, r3, r4, r5, z0, z1, z2, z3, z4, z5⟩ := hO
    go_wp2_with fail
    refine bodyPost_ret (v := .agg #[.int .i64 x0, .int .i64 x1, .int .i64 x2, .int .i64 x3, .int .i64 x4, .int .i64 x5]) (by simp [results, Try.results47, go_sem, r0, r1, r2, r3, r4, r5]) rfl ?_
    exact ⟨_, _, _, _, _, _, rfl, hD9.set6 (Nat.le_refl _) hgs _ _ _ _ _ _⟩
  · have t0 : (y == 0) = false := by rw [beq_eq_false_iff_ne]; omega
    have t1 : (y == 1) = false := by rw [beq_eq_false_iff_ne]; omega
    have t2 : (y == 2) = false := by rw [beq_eq_false_iff_ne]; omega
    have t3 : (y == 3) = false := by rw [beq_eq_false_iff_ne]; omega
    have t4 : (y == 4) = false := by rw [beq_eq_false_iff_ne]; omega
    have t5 : (y == 5) = false := by rw [beq_eq_false_iff_ne]; omega
    have hP := hP3
    have hO := hO3
    have hD9 := hD3
    obtain ⟨w9, rfl⟩ : ∃ W, W = w3 := ⟨_, rfl⟩
    clear hP3 hO3 hD3
    go_upto_region 15 with (fail)
    obtain ⟨x0, x1, x2, x3, x4, x5, hP⟩ : ∃ x0 x1 x2 x3 x4 x5, OpAt w9 p x0 x1 x2 x3 x4 x5 := ⟨_, _, _, _, _, _, hP⟩
    have q0 := hP.c0
    have q1 := hP.c1
    have q2 := hP.c2
    have q3 := hP.c3
    have q4 := hP.c4
    have q5 := hP.c5
    obtain ⟨r0, r1, r2, r3, r4, r5, z0, z1, z2, z3, z4, z5⟩ := hO
    go_wp2_with fail
    refine bodyPost_ret (v := .agg #[.int .i64 x0, .int .i64 x1, .int .i64 x2, .int .i64 x3, .int .i64 x4, .int .i64 x5]) (by simp [results, Try.results47, go_sem, r0, r1, r2, r3, r4, r5]) rfl ?_
    exact ⟨_, _, _, _, _, _, rfl, hD9.set6 (Nat.le_refl _) hgs _ _ _ _ _ _⟩
end Go.Proofs.Ytbnepdecfnhgoaa.kit
namespace Go.Proofs.Ytbnepdecfnhgoaa.kit
open Go.ChangeShapes Go.WideShapes Go.ChangeAt Go.RowKit
set_option linter.unusedVariables false
set_option linter.unusedSimpArgs false

theorem OwnE.drew {g : Nat} {w w' : World} {base : Nat} {v : Value} {l : List Ent} (h : OwnE base w v l) (hd : Drew g w w') (hg : g < base) : OwnE base w' v l := own_drew h hd hg
def lenOf : Value → Nat
  | .slice _ n _ => n
  | _ => 0
set_option maxRecDepth 100000 in
set_option maxHeartbeats 8000000 in
theorem log_any (g : Nat) (w : World) (hc : Cur g w) :
    Calls Try.prog 97 #[.pointer (some ⟨g, 0, none⟩)] w fun e w' => ∃ (v : Value) (L : List Ent), e = .returned v ∧ L.length ≤ 6 ∧ OwnE w.heap.size w' v L ∧ Drew g w w' := by
  have hgs := hc.lt
  have hD0 := (Drew.refl hc).alloc (.cells #[] 56)
  have ho0 : OwnE w.heap.size (w.alloc (.cells #[] 56)) (.slice (some ⟨w.heap.size, 0, none⟩) 0 0) [] := World.ownsRow_lit w #[] 0 (Nat.le_refl _) (Nat.zero_le _) rfl
  have C1 := Lib.hid (below_small g 7 _ (by decide) (by decide) hD0.2)
  have CO := fun W (h : Cur g W) => Lib.hid (once_any g 3 W (by decide) (by decide) h)
  have HT := Lib.hid Try.underlying44
  go_enter Try.func97, Try.ntmps97
  go_wp2_with fail
  refine (C1.out).mono ?_
  rintro e w1 ⟨y, rfl, hy0, hy1, hd1⟩
  obtain ⟨n0, rfl⟩ := Int.eq_ofNat_of_zero_le hy0
  have hD1 := hD0.trans hd1
  have ho1 := ho0.drew hd1 hgs
  clear hD0 ho0 hd1 C1
  go_wp2_with fail
  go_loopw [3, 4, 5, 6] (fun u e n _ wr => ∃ (k : Nat) (l : List Ent) (x : Int), n = .int .i64 k ∧ e = .int .i64 x ∧ 1 ≤ x ∧ x + (k : Int) ≤ 8 ∧ l.length + k ≤ 6 ∧ OwnE w.heap.size wr u l ∧ Drew g w wr) (fun _ _ n _ _ => (intOf n).toNat)
  case atStart => exact ⟨n0, [], 1, rfl, rfl, by omega, by omega, by simp; omega, ho1, hD1⟩
  case round =>
    obtain ⟨k, l, x, rfl, rfl, hx1, hx2, hl, hown, hD⟩ := hrel
    by_cases hlt : 0 < k
    · have t1 : decide ((k : Int) > 0) = true := decide_eq_true (by omega)
      have hw1 : IntKind.i64.wrap ((k : Int) - 1) = (k : Int) - 1 := IntWalk.i64_in _ (by omega)
      have hw2 : IntKind.i64.wrap (x + 1) = x + 1 := IntWalk.i64_in _ (by omega)
      go_wp2_with fail
      refine ((CO _ hD.2).out).mono ?_
      rintro e w3 ⟨b, rfl, hd3⟩
      have ho3 := hown.drew hd3 hgs
      have hD3 := hD.trans hd3
      cases b
      · skip
        have C3 := Lib.hid (op_any g _ hD3.2)
        go_wp2_with fail
        refine (C3.out).mono ?_
        rintro e w4 ⟨c, s, k', o, d, v, rfl, hd4⟩
        unfold opV
        have hD4 := hD3.trans hd4
        have ho4 := ho3.drew hd4 hgs
        have hbA := (Below.refl w4.heap.size w4).alloc (Nat.le_refl _) (.cells #[.int .i64 c, .int .i64 s, .int .i64 k', .int .i64 o, .int .i64 d, .int .i64 v] 29)
        have hD5 := hD4.alloc (.cells #[.int .i64 c, .int .i64 s, .int .i64 k', .int .i64 o, .int .i64 d, .int .i64 v] 29)
        have ho5 := ho4.later hbA
        have hlit := SrcE.lit (w4.alloc (.cells #[.int .i64 c, .int .i64 s, .int .i64 k', .int .i64 o, .int .i64 d, .int .i64 v] 29)) x c s k' o d v
        simp only [World.size_alloc] at hlit
        go_wp2_with (at_builtin; refine wpList_appE HT.out rfl (.tmp 20) (.tmp 24) rfl w.heap.size _ l rfl (ho5.later ((Below.refl _ _).alloc (Nat.le_refl _) _)) _ _ [⟨x, c, s, k', o, d, v⟩] rfl hlit (by simp; omega) (by have := hD5.1.size; simp at this ⊢; omega) ?_; intro v' w6 ho6 hb6 hg6)
        go_roundw
        case rel => exact ⟨k - 1, l ++ [_], x, by congr 1; omega, rfl, by omega, by omega, by simp; omega, ho6, (hD5.alloc _).below hb6 hgs⟩
        case measure => simp [intOf]; omega
      · skip
        have C3 := Lib.hid (op_any g _ hD3.2)
        go_wp2_with fail
        refine (C3.out).mono ?_
        rintro e w4 ⟨c, s, k', o, d, v, rfl, hd4⟩
        unfold opV
        have hD4 := hD3.trans hd4
        have ho4 := ho3.drew hd4 hgs
        have hbA := (Below.refl w4.heap.size w4).alloc (Nat.le_refl _) (.cells #[.int .i64 c, .int .i64 s, .int .i64 k', .int .i64 o, .int .i64 d, .int .i64 v] 29)
        have hD5 := hD4.alloc (.cells #[.int .i64 c, .int .i64 s, .int .i64 k', .int .i64 o, .int .i64 d, .int .i64 v] 29)
        have ho5 := ho4.later hbA
        have hlit := SrcE.lit (w4.alloc (.cells #[.int .i64 c, .int .i64 s, .int .i64 k', .int .i64 o, .int .i64 d, .int .i64 v] 29)) (x + 1) c s k' o d v
        simp only [World.size_alloc] at hlit
        go_wp2_with (at_builtin; refine wpList_appE HT.out rfl (.tmp 20) (.tmp 24) rfl w.heap.size _ l rfl (ho5.later ((Below.refl _ _).alloc (Nat.le_refl _) _)) _ _ [⟨x + 1, c, s, k', o, d, v⟩] rfl hlit (by simp; omega) (by have := hD5.1.size; simp at this ⊢; omega) ?_; intro v' w6 ho6 hb6 hg6)
        go_roundw
        case rel => exact ⟨k - 1, l ++ [_], x + 1, by congr 1; omega, rfl, by omega, by omega, by simp; omega, ho6, (hD5.alloc _).below hb6 hgs⟩
        case measure => simp [intOf]; omega
    · have t1 : decide ((k : Int) > 0) = false := decide_eq_false (by omega)
      go_wp2_with fail
      go_ret
      exact ⟨_, l, rfl, by omega, hown, hD⟩
set_option maxRecDepth 100000 in
set_option maxHeartbeats 8000000 in
theorem any5_any (g : Nat) (w : World) (hc : Cur g w) :
    Calls Try.prog 63 #[.pointer (some ⟨g, 0, none⟩)] w fun e w' => ∃ (v : Value) (L : List Ent), e = .returned v ∧ L.length ≤ 17 ∧ OwnE w.heap.size w' v L ∧ Drew g w w' := by
  have hgs := hc.lt
  have C1 := Lib.hid (log_any g w hc)
  have HT := Lib.hid Try.underlying44
  go_enter Try.func63, Try.ntmps63
  go_wp2_with fail
  refine (C1.out).mono ?_
  rintro e w1 ⟨u, L, rfl, hL, ho1, hd1⟩
  obtain ⟨yu, qu, rfl⟩ := ho1.shape
  have CB := Lib.hid (below_small g 14 w1 (by decide) (by decide) hd1.2)
  clear C1
  go_wp2_with fail
  refine (CB.out).mono ?_
  rintro e w2 ⟨y, rfl, hy0, hy1, hd2⟩
  have hD2 := hd1.trans hd2
  have ho2 := ho1.drew hd2 hgs
  clear CB ho1 hd1 hd2
  have hy : y = 0 ∨ y = 1 ∨ 2 ≤ y := by omega
  rcases hy with rfl | rfl | hy
  · clear hy0 hy1
    have j0 := pick_lits hD2.2 [0, 1, 20, 21] (by decide) (by decide) (by unfold fits; decide)
    simp only [List.map_cons, List.map_nil, List.length_cons, List.length_nil, Nat.reduceAdd] at j0
    have J := Lib.hid j0
    clear j0
    go_wp2_with fail
    refine (J.out).mono ?_
    rintro e w3 ⟨x, rfl, hf, hd3⟩
    have hD3 := hD2.trans hd3
    have ho3 := ho2.drew hd3 hgs
    have CA := Lib.hid (anyOp_any g w3 hD3.2)
    clear J ho2 hD2 hd3
    go_wp2_with fail
    refine (CA.out).mono ?_
    rintro e w4 ⟨c, s, k', o, d, v, rfl, hd4⟩
    unfold opV
    have hD4 := hD3.trans hd4
    have ho4 := ho3.drew hd4 hgs
    have hzz := hD4.1.size
    have hlit := SrcE.lit w4 x c s k' o d v
    go_wp2_with (at_builtin; refine wpList_appE HT.out rfl (.tmp 11) (.tmp 18) rfl w.heap.size _ L rfl (ho4.later ((Below.refl _ _).alloc (Nat.le_refl _) _)) _ _ [⟨x, c, s, k', o, d, v⟩] rfl hlit (by simp; omega) (by simp; omega) ?_; intro v' w6 ho6 hb6 hg6)
    go_ret
    exact ⟨_, L ++ [_], rfl, by simp; omega, ho6, (hD4.alloc _).below hb6 hgs⟩
  · clear hy0 hy1
    go_wp2_with fail
    go_loopw [3, 4] (fun u _ wr => ∃ (l : List Ent) (a : Option Addr) (q : Nat), u = .slice a l.length q ∧ l.length ≤ 17 ∧ OwnE w.heap.size wr (.slice a l.length q) l ∧ Drew g w wr) (fun u _ _ => 17 - lenOf u)
    case atStart => exact ⟨L, _, _, rfl, by omega, ho2, hD2⟩
    case round =>
      obtain ⟨l, a, q, rfl, hl, ho3, hD3⟩ := hrel
      by_cases hlt : l.length < 17
      · have t1 : decide ((l.length : Int) < 17) = true := decide_eq_true (by omega)
        have CA := Lib.hid (op_any g _ hD3.2)
        go_wp2_with fail
        refine (CA.out).mono ?_
        rintro e w4 ⟨c, s, k', o, d, v, rfl, hd4⟩
        unfold opV
        have hD4 := hD3.trans hd4
        have ho4 := ho3.drew hd4 hgs
        have hzz := hD4.1.size
        have hbA := (Below.refl w4.heap.size w4).alloc (Nat.le_refl _) (.cells #[.int .i64 c, .int .i64 s, .int .i64 k', .int .i64 o, .int .i64 d, .int .i64 v] 29)
        have hD5 := hD4.alloc (.cells #[.int .i64 c, .int .i64 s, .int .i64 k', .int .i64 o, .int .i64 d, .int .i64 v] 29)
        have ho5 := ho4.later hbA
        have hlit := SrcE.lit (w4.alloc (.cells #[.int .i64 c, .int .i64 s, .int .i64 k', .int .i64 o, .int .i64 d, .int .i64 v] 29)) 20 c s k' o d v
        simp only [World.size_alloc] at hlit
        go_wp2_with (at_builtin; refine wpList_appE HT.out rfl (.tmp 27) (.tmp 30) rfl w.heap.size _ l rfl (ho5.later ((Below.refl _ _).alloc (Nat.le_refl _) _)) _ _ [⟨20, c, s, k', o, d, v⟩] rfl hlit (by simp; omega) (by simp; omega) ?_; intro v' w6 ho6 hb6 hg6; obtain ⟨a6, q6, rfl⟩ := ho6.shape)
        go_roundw
        case rel => exact ⟨l ++ [⟨20, c, s, k', o, d, v⟩], a6, q6, by rw [List.length_append]; rfl, by simp; omega, ho6, (hD5.alloc _).below hb6 hgs⟩
        case measure => simp [lenOf]; omega
      · have t1 : decide ((l.length : Int) < 17) = false := decide_eq_false (by omega)
        go_wp2_with fail
        go_ret
        exact ⟨_, l, rfl, by omega, ho3, hD3⟩
  · have t0 : (y == 0) = false := by rw [beq_eq_false_iff_ne]; omega
    have t1 : (y == 1) = false := by rw [beq_eq_false_iff_ne]; omega
    go_wp2_with fail
    go_ret
    exact ⟨_, L, rfl, by omega, ho2, hD2⟩
set_option maxRecDepth 100000 in
set_option maxHeartbeats 4000000 in
theorem drawResultAt (A : Option Addr) (len cap : Nat) (zs : List Int) (w : World) (hc : Code w A len cap zs) :
    Calls Try.prog 23 #[.slice A len cap] w fun e w' => ∃ (v : Value) (L : List Ent) (i : Int), e = .returned (.tuple #[v, .int .i64 i]) ∧ L.length ≤ 17 ∧ -1 ≤ i ∧ i ≤ 20 ∧ OwnE w.heap.size w' v L ∧ Below w.heap.size w w' := by
  have C1 := Lib.hid (new_any A len cap zs w hc.row hc.low)
  go_enter Try.func23, Try.ntmps23
  go_wp2_with fail
  refine (C1.out).mono ?_
  rintro e w1 ⟨rfl, hcur, hb1⟩
  have C2 := Lib.hid (any5_any w.heap.size w1 hcur)
  have hlt := hcur.lt
  clear C1
  go_wp2_with fail
  refine (C2.out).mono ?_
  rintro e w2 ⟨v1, L, rfl, hL, ho1, hd2⟩
  obtain ⟨y1, q1, rfl⟩ := ho1.shape
  have hb2 := drew_below hb1 (Nat.le_refl _) hd2
  have hw : IntKind.i64.wrap ((L.length : Int) + 2) = (L.length : Int) + 2 := IntWalk.i64_in _ (by omega)
  have C3 := Lib.hid (below_small w.heap.size ((L.length : Int) + 2) w2 (by omega) (by omega) hd2.2)
  clear C2
  go_wp2_with fail
  refine (C3.out).mono ?_
  rintro e w3 ⟨y, rfl, hy0, hy1, hd3⟩
  have hw2 : IntKind.i64.wrap (y - 1) = y - 1 := IntWalk.i64_in _ (by omega)
  have ho3 := (ho1.drew hd3 hlt).mono (Nat.le_of_lt hlt)
  have hb3 := drew_below hb2 (Nat.le_refl _) hd3
  clear C3 hw
  go_wp2_with fail
  go_ret2
  exact ⟨_, L, y - 1, rfl, hL, by omega, by omega, ho3, hb3⟩
theorem run_uptoV (W : World) (a : Option Addr) (n cap k : Nat) (hk : k ≤ cap) : (Instr.slice 44 (.slice a n cap) none (some (.int .i64 (k : Int))) none).run Try.prog W = .ok (.slice a k cap) W := by
  rw [run_slice_h (P := Try.prog) W 44 a n cap (by kernel_rfl) .i64 (k : Int) (by omega) (by omega)]
  have hs : (sizeOf (Try.prog.elem 44)).run Try.prog W = .ok 7 W := by kernel_rfl
  rw [hs]
  show Result.ok (sliced a 0 (k : Int).toNat cap 7) W = _
  rw [Int.toNat_natCast]
  unfold sliced
  by_cases h : cap = 0
  · rw [if_pos h, Nat.sub_zero, Nat.sub_zero]
  · rw [if_neg h, Nat.sub_zero, Nat.sub_zero, Nat.zero_mul]
    cases a with
    | none => rfl
    | some p => rw [Option.map_some, add_zero']
theorem srcE_up {B B' : Nat} {w : World} {v : Value} {L : List Ent} (h : SrcE B w v L) (hB : B ≤ B') : SrcE B' w v L := by
  rcases h with h | ⟨g, of, c, h1, h2, h3⟩
  · exact .inl h
  · exact .inr ⟨g, of, c, h1, by omega, h3⟩
/-- the first k entries of a source -/
theorem srcE_upto {B : Nat} {w : World} {a : Option Addr} {n q k : Nat} {L : List Ent} (h : SrcE B w (.slice a n q) L) (hk : k ≤ L.length) : SrcE B w (.slice a k q) (L.take k) := by
  rcases h with ⟨h1, h2⟩ | ⟨g, of, c, h1, h2, h3⟩
  · subst h2
    injection h1 with e1 e2 e3
    subst e1 e3
    have : k = 0 := by simpa using hk
    subst this
    exact .inl ⟨rfl, rfl⟩
  · injection h1 with e1 e2 e3
    subst e1 e3
    refine .inr ⟨g, of, _, by rw [List.length_take, Nat.min_eq_left hk], h2, fun j hj => ?_⟩
    rw [List.length_take] at hj
    rw [gE_take (by omega)]
    exact h3 j (by omega)
set_option maxRecDepth 100000 in
theorem copySrc (B : Nat) (v : Value) (L : List Ent) (w : World) (hl : L.length ≤ 2097152) (hB : B ≤ w.heap.size) (h : SrcE B w v L) :
    Calls Try.prog 72 #[v] w fun e w' => ∃ u, e = .returned u ∧ OwnE w.heap.size w' u L ∧ Below w.heap.size w w' := by
  have HS := Lib.hid h
  have HE := Lib.hid (show OwnE w.heap.size (w.alloc (.cells #[] 56)) (.slice (some ⟨w.heap.size, 0, none⟩) 0 0) [] from World.ownsRow_lit w #[] 0 (Nat.le_refl _) (Nat.zero_le _) rfl)
  have HT := Lib.hid Try.underlying44
  clear h
  go_enter Try.func72, Try.ntmps72
  go_wp2_with (at_builtin; refine wpList_appE HT.out rfl (.tmp 3) (.tmp 4) rfl w.heap.size _ [] rfl HE.out w.heap.size _ L rfl (srcE_up (HS.out.below ((Below.refl w.heap.size w).alloc (Nat.le_refl _) _) hB) hB) (by simp; omega) (by simp) ?_; intro v1 w1 ho1 hb1 hg1)
  go_ret
  exact ⟨v1, rfl, by simpa using ho1, ((Below.refl _ _).alloc (Nat.le_refl _) _).trans hb1⟩
set_option maxRecDepth 100000 in
set_option maxHeartbeats 8000000 in
theorem two5_any (A : Option Addr) (len cap : Nat) (zs : List Int) (w : World) (hc : Code w A len cap zs) :
    Calls Try.prog 62 #[.slice A len cap] w fun e w' => ∃ (v1 v2 : Value) (L1 L2 : List Ent), e = .returned (.tuple #[v1, v2]) ∧ L1.length ≤ 17 ∧ L2.length ≤ 19 ∧ OwnE w.heap.size w' v1 L1 ∧ OwnE w.heap.size w' v2 L2 ∧ Below w.heap.size w w' := by
  have C1 := Lib.hid (new_any A len cap zs w hc.row hc.low)
  have HT := Lib.hid Try.underlying44
  go_enter Try.func62, Try.ntmps62
  go_wp2_with fail
  refine (C1.out).mono ?_
  rintro e w1 ⟨rfl, hcur, hb1⟩
  have C2 := Lib.hid (any5_any w.heap.size w1 hcur)
  have hlt := hcur.lt
  clear C1
  go_wp2_with fail
  refine (C2.out).mono ?_
  rintro e w2 ⟨v1, L1, rfl, hL1, ho1, hd2⟩
  obtain ⟨y1, q1, rfl⟩ := ho1.shape
  have C3 := Lib.hid (once_any w.heap.size 3 w2 (by decide) (by decide) hd2.2)
  have hb2 := drew_below hb1 (Nat.le_refl _) hd2
  clear C2
  go_wp2_with fail
  refine (C3.out).mono ?_
  rintro e w3 ⟨b, rfl, hd3⟩
  have hb3 := drew_below hb2 (Nat.le_refl _) hd3
  have ho3 := ho1.drew hd3 hlt
  have hz3 := hb3.size
  clear C3
  cases b
  · have hw : IntKind.i64.wrap ((L1.length : Int) + 1) = (L1.length : Int) + 1 := IntWalk.i64_in _ (by omega)
    have C4 := Lib.hid (below_small w.heap.size ((L1.length : Int) + 1) w3 (by omega) (by omega) hd3.2)
    go_wp2_with fail
    refine (C4.out).mono ?_
    rintro e w4 ⟨y, rfl, hy0, hy1, hd4⟩
    obtain ⟨k, rfl⟩ := Int.eq_ofNat_of_zero_le hy0
    have hb4 := drew_below hb3 (Nat.le_refl _) hd4
    have ho4 := ho3.drew hd4 hlt
    have hq : L1.length ≤ q1 := by
      obtain ⟨_, _, h', hle, _⟩ := ho4.form
      cases h'
      exact hle
    have R := fun W => run_uptoV W y1 L1.length q1 k (by omega)
    have C5 := Lib.hid (copySrc w4.heap.size (.slice y1 k q1) (L1.take k) w4 (by rw [List.length_take]; omega) (Nat.le_refl _) (srcE_upto (SrcE.own ho4) (by omega)))
    have hlk : (L1.take k).length ≤ 17 := by rw [List.length_take]; omega
    generalize L1.take k = L2 at *
    clear C4 hw
    go_wp2_with fail
    refine (C5.out).mono ?_
    rintro e w5 ⟨v2, rfl, ho5, hbc⟩
    have hb5 := hb4.trans (hbc.mono hb4.size)
    have hcur5 := Cur.below hd4.2 hbc hd4.2.lt
    have hp5 := ho4.later hbc
    have hlow4 : ∀ gg, (Value.slice y1 L1.length q1).ownBlock = some gg → gg < w4.heap.size := fun gg h => (ho4.row.lt gg h).2
    have hz14 : w1.heap.size ≤ w4.heap.size := ((hd2.trans hd3).trans hd4).1.size
    have hD5 : Drew w.heap.size w1 w5 := ((hd2.trans hd3).trans hd4).below (hbc.mono hz14) hlt
    have C6 := Lib.hid (below_small w.heap.size 3 w5 (by decide) (by decide) hcur5)
    clear C5 R hq
    go_wp2_with fail
    refine (C6.out).mono ?_
    rintro e w6 ⟨n, rfl, hn0, hn1, hd6⟩
    obtain ⟨n0, rfl⟩ := Int.eq_ofNat_of_zero_le hn0
    have hD6 := hD5.trans hd6
    have hz46 : w4.heap.size ≤ w6.heap.size := Nat.le_trans hbc.size hd6.1.size
    have hp6 := hp5.drew hd6 hlt
    have hr6 := ho5.drew hd6 (Nat.lt_of_lt_of_le hlt hz14)
    clear C6 ho4 ho3 ho1 ho5 hp5 hD5 hd6 hd4 hd3 hd2 hb2 hb3 hb4 hb5 hcur5
    go_wp2_with fail
    go_loopw [6, 7, 8] (fun u n _ wr => ∃ (k : Nat) (l : List Ent), n = .int .i64 k ∧ k ≤ 2 ∧ l.length + k ≤ 19 ∧ OwnE w4.heap.size wr u l ∧ OwnE w1.heap.size wr (.slice y1 L1.length q1) L1 ∧ w4.heap.size ≤ wr.heap.size ∧ Drew w.heap.size w1 wr) (fun _ n _ _ => (intOf n).toNat)
    case atStart => exact ⟨n0, L2, rfl, by omega, by omega, hr6, hp6, hz46, hD6⟩
    case round =>
      obtain ⟨k, l, rfl, hk, hl, hu, hp, hzr, hD⟩ := hrel
      by_cases hk0 : 0 < k
      · have t1 : decide ((k : Int) > 0) = true := decide_eq_true (by omega)
        have hw1 : IntKind.i64.wrap ((k : Int) - 1) = (k : Int) - 1 := IntWalk.i64_in _ (by omega)
        have CA := Lib.hid (op_any w.heap.size _ hD.2)
        go_wp2_with fail
        refine (CA.out).mono ?_
        rintro e w7 ⟨c, s, k', o, d, v, rfl, hd7⟩
        unfold opV
        have hD7 := hD.trans hd7
        have hp7 := hp.drew hd7 hlt
        have hu7 := hu.drew hd7 (Nat.lt_of_lt_of_le hlt hz14)
        have hz7 : w4.heap.size ≤ w7.heap.size := Nat.le_trans hzr hd7.1.size
        have hbA := (Below.refl w7.heap.size w7).alloc (Nat.le_refl _) (.cells #[.int .i64 c, .int .i64 s, .int .i64 k', .int .i64 o, .int .i64 d, .int .i64 v] 29)
        have hD8 := hD7.alloc (.cells #[.int .i64 c, .int .i64 s, .int .i64 k', .int .i64 o, .int .i64 d, .int .i64 v] 29)
        have hu8 := hu7.later hbA
        have hp8 := hp7.later hbA
        have hlit := SrcE.lit (w7.alloc (.cells #[.int .i64 c, .int .i64 s, .int .i64 k', .int .i64 o, .int .i64 d, .int .i64 v] 29)) 9 c s k' o d v
        simp only [World.size_alloc] at hlit
        have hpp := hp8.later ((Below.refl _ _).alloc (Nat.le_refl _) (.cells #[.int .i64 9, .int .i64 c, .int .i64 s, .int .i64 k', .int .i64 o, .int .i64 d, .int .i64 v] 56))
        clear hp hu hp7 hp8 hbA
        go_wp2_with (at_builtin; refine wpList_appE HT.out rfl (.tmp 34) (.tmp 37) rfl w4.heap.size _ l rfl (hu8.later ((Below.refl _ _).alloc (Nat.le_refl _) _)) _ _ [⟨9, c, s, k', o, d, v⟩] rfl hlit (by simp; omega) (by simp; omega) ?_; intro v' w9 ho9 hb9 hg9)
        go_roundw
        case rel => exact ⟨k - 1, l ++ [_], by congr 1; omega, by omega, by simp; omega, ho9, hpp.marked hg9 (fun gg h1 h2 => by have h3 := (hu7.row.lt gg h1).1; have h4 := hlow4 gg h2; omega), by have := hb9.size; simp at this; omega, (hD8.alloc _).below (hb9.mono hz14) hlt⟩
        case measure => simp [intOf]; omega
      · have t1 : decide ((k : Int) > 0) = false := decide_eq_false (by omega)
        go_wp2_with fail
        go_ret2
        exact ⟨_, _, L1, l, rfl, hL1, by omega, hp.mono (Nat.le_of_lt hlt), hu.mono (Nat.le_trans (Nat.le_of_lt hlt) hz14), drew_below hb1 (Nat.le_refl _) hD⟩
  · have C4 := Lib.hid (any5_any w.heap.size w3 hd3.2)
    go_wp2_with fail
    refine (C4.out).mono ?_
    rintro e w4 ⟨v2, L2, rfl, hL2, ho4, hd4⟩
    have hb4 := drew_below hb3 (Nat.le_refl _) hd4
    have ho14 := (ho3.drew hd4 hlt).mono (Nat.le_of_lt hlt)
    go_wp2_with fail
    go_ret2
    exact ⟨_, _, L1, L2, rfl, hL1, by omega, ho14, ho4.mono hz3, hb4⟩
theorem drawCommonPrefix (A : Option Addr) (len cap : Nat) (zs : List Int) (w : World) (hc : Code w A len cap zs) :
    Calls Try.prog 19 #[.slice A len cap] w fun e w' => ∃ (v1 v2 : Value) (L1 L2 : List Ent), e = .returned (.tuple #[v1, v2]) ∧ L1.length ≤ 17 ∧ L2.length ≤ 19 ∧ OwnE w.heap.size w' v1 L1 ∧ OwnE w.heap.size w' v2 L2 ∧ Below w.heap.size w w' := by
  have C1 := Lib.hid (two5_any A len cap zs w hc)
  go_enter Try.func19, Try.ntmps19
  go_wp2_with fail
  refine (C1.out).mono ?_
  rintro e w1 ⟨v1, v2, L1, L2, rfl, h1, h2, o1, o2, hb⟩
  go_wp2_with fail
  go_ret2
  exact ⟨_, _, L1, L2, rfl, h1, h2, o1, o2, hb⟩
end Go.Proofs.Ytbnepdecfnhgoaa.kit
namespace Go.Proofs.Ytbnepdecfnhgoaa.kit
open Go.ChangeShapes Go.WideShapes Go.ChangeAt Go.RowKit
set_option linter.unusedVariables false
set_option linter.unusedSimpArgs false

/-- an entry lies in block b, free to be written -/
structure XAt (w : World) (b : Nat) (e c s k o d v : Int) : Prop where
  c0 : w.cell? ⟨b, 0, none⟩ = some (.int .i64 e)
  c1 : w.cell? ⟨b, 1, none⟩ = some (.int .i64 c)
  c2 : w.cell? ⟨b, 2, none⟩ = some (.int .i64 s)
  c3 : w.cell? ⟨b, 3, none⟩ = some (.int .i64 k)
  c4 : w.cell? ⟨b, 4, none⟩ = some (.int .i64 o)
  c5 : w.cell? ⟨b, 5, none⟩ = some (.int .i64 d)
  c6 : w.cell? ⟨b, 6, none⟩ = some (.int .i64 v)
  f0 : w.frozen? ⟨b, 0, none⟩ = false
  f1 : w.frozen? ⟨b, 1, none⟩ = false
  f2 : w.frozen? ⟨b, 2, none⟩ = false
  f3 : w.frozen? ⟨b, 3, none⟩ = false
  f4 : w.frozen? ⟨b, 4, none⟩ = false
  f5 : w.frozen? ⟨b, 5, none⟩ = false
  f6 : w.frozen? ⟨b, 6, none⟩ = false
theorem XAt.lt {w : World} {b : Nat} {e c s k o d v : Int} (h : XAt w b e c s k o d v) : b < w.heap.size := World.block_lt_of_cell? w _ h.c0
theorem XAt.below {w w1 : World} {B b : Nat} {e c s k o d v : Int} (h : XAt w b e c s k o d v) (hb : Below B w w1) (h0 : b < B) : XAt w1 b e c s k o d v := by
  have hc := fun o => hb.cell (p := ⟨b, o, none⟩) h0
  have hf := fun o => hb.frozen (p := ⟨b, o, none⟩) h0
  exact ⟨(hc 0).trans h.c0, (hc 1).trans h.c1, (hc 2).trans h.c2, (hc 3).trans h.c3, (hc 4).trans h.c4, (hc 5).trans h.c5, (hc 6).trans h.c6, (hf 0).trans h.f0, (hf 1).trans h.f1, (hf 2).trans h.f2, (hf 3).trans h.f3, (hf 4).trans h.f4, (hf 5).trans h.f5, (hf 6).trans h.f6⟩
theorem XAt.later {w w1 : World} {b : Nat} {e c s k o d v : Int} (h : XAt w b e c s k o d v) (hb : Below w.heap.size w w1) : XAt w1 b e c s k o d v := h.below hb h.lt
theorem XAt.alloc (w : World) {e c s k o d v : Int} : XAt (w.alloc (.cells #[.int .i64 e, .int .i64 c, .int .i64 s, .int .i64 k, .int .i64 o, .int .i64 d, .int .i64 v] 56)) w.heap.size e c s k o d v := by
  have hc : ∀ q : Nat, (w.alloc (.cells #[.int .i64 e, .int .i64 c, .int .i64 s, .int .i64 k, .int .i64 o, .int .i64 d, .int .i64 v] 56)).frozen? ⟨w.heap.size, q, none⟩ = false := fun q => World.frozen?_alloc_new w _ _ q
  refine ⟨?_, ?_, ?_, ?_, ?_, ?_, ?_, hc _, hc _, hc _, hc _, hc _, hc _, hc _⟩ <;> (rw [World.cell?_alloc_at _ _ _ _ rfl]; rfl)
theorem XAt.grown {w w' : World} {b g : Nat} {e c s k o d v : Int} (h : XAt w b e c s k o d v) (hg : w.grownBy w' (some g)) (hne : b ≠ g) : XAt w' b e c s k o d v := by
  have hb : w'.heap[b]? = w.heap[b]? := hg.block b h.lt (fun e => hne (Option.some.inj e))
  have hc := fun q => World.cell?_of_block (a := ⟨b, q, none⟩) hb
  have hf := fun q => World.frozen?_of_block (a := ⟨b, q, none⟩) hb
  exact ⟨(hc 0).trans h.c0, (hc 1).trans h.c1, (hc 2).trans h.c2, (hc 3).trans h.c3, (hc 4).trans h.c4, (hc 5).trans h.c5, (hc 6).trans h.c6, (hf 0).trans h.f0, (hf 1).trans h.f1, (hf 2).trans h.f2, (hf 3).trans h.f3, (hf 4).trans h.f4, (hf 5).trans h.f5, (hf 6).trans h.f6⟩
set_option maxRecDepth 100000 in
set_option maxHeartbeats 4000000 in
theorem drawAppendEntry (A : Option Addr) (len cap : Nat) (zs : List Int) (w : World) (hc : Code w A len cap zs) :
    Calls Try.prog 28 #[.slice A len cap] w fun e w' => ∃ (u : Value) (L : List Ent) (x c s k o d v : Int), e = .returned (.tuple #[u, .agg #[.int .i64 x, .int .i64 c, .int .i64 s, .int .i64 k, .int .i64 o, .int .i64 d, .int .i64 v]]) ∧ L.length ≤ 17 ∧ OwnE w.heap.size w' u L ∧ Below w.heap.size w w' := by
  have hbA := (Below.refl w.heap.size w).alloc (Nat.le_refl _) (.cells #[.int .i64 0, .int .i64 0, .int .i64 0, .int .i64 0, .int .i64 0, .int .i64 0, .int .i64 0] 56)
  have hE0 : XAt (w.alloc (.cells #[.int .i64 0, .int .i64 0, .int .i64 0, .int .i64 0, .int .i64 0, .int .i64 0, .int .i64 0] 56)) w.heap.size 0 0 0 0 0 0 0 := XAt.alloc w
  have hcA := hc.below hbA
  have C1 := Lib.hid (new_any A len cap zs _ hcA.row hcA.low)
  have hz : (w.alloc (.cells #[.int .i64 0, .int .i64 0, .int .i64 0, .int .i64 0, .int .i64 0, .int .i64 0, .int .i64 0] 56)).heap.size = w.heap.size + 1 := by simp
  rw [hz] at C1
  go_enter Try.func28, Try.ntmps28
  go_wp2_with fail
  refine (C1.out).mono ?_
  rintro e w1 ⟨rfl, hcur, hb1⟩
  have hE1 := hE0.below hb1 (by omega)
  have hB1 := hbA.trans (hb1.mono (by omega))
  have C2 := Lib.hid (any5_any (w.heap.size + 1) w1 hcur)
  have hlt := hcur.lt
  clear C1 hE0 hcA hb1 hbA
  go_wp2_with fail
  refine (C2.out).mono ?_
  rintro e w2 ⟨u1, L, rfl, hL, ho1, hd2⟩
  obtain ⟨y1, q1, rfl⟩ := ho1.shape
  have hE2 := hE1.grown hd2.1 (by omega)
  have hB2 := drew_below hB1 (by omega) hd2
  have j0 := pick_lits hd2.2 [1, 3, 9, 20, 21, 0] (by decide) (by decide) (by unfold fits; decide)
  simp only [List.map_cons, List.map_nil, List.length_cons, List.length_nil, Nat.reduceAdd] at j0
  have J := Lib.hid j0
  clear j0 C2 hE1 hB1
  go_wp2_with fail
  refine (J.out).mono ?_
  rintro e w3 ⟨x, rfl, hf, hd3⟩
  have hE3 := hE2.grown hd3.1 (by omega)
  have hB3 := drew_below hB2 (by omega) hd3
  have ho3 := ho1.drew hd3 hlt
  have CA := Lib.hid (anyOp_any _ w3 hd3.2)
  clear J hE2 hB2 ho1 hf
  go_wp2_with fail
  refine (CA.out).mono ?_
  rintro e w4 ⟨c, s, k, o, d, v, rfl, hd4⟩
  unfold opV
  have hE4 := hE3.grown hd4.1 (by omega)
  have hB4 := drew_below hB3 (by omega) hd4
  have ho4 := ho3.drew hd4 hlt
  have hlb : w.heap.size < w1.heap.size := by omega
  clear CA hE3 hB3 ho3 hd4 hd3 hd2
  have hfin : ∀ (v0 v1 v2 v3 v4 v5 v6 : Value), Below w.heap.size w4 (((((((w4.setCell ⟨w.heap.size, 0, none⟩ v0).setCell ⟨w.heap.size, 1, none⟩ v1).setCell ⟨w.heap.size, 2, none⟩ v2).setCell ⟨w.heap.size, 3, none⟩ v3).setCell ⟨w.heap.size, 4, none⟩ v4).setCell ⟨w.heap.size, 5, none⟩ v5).setCell ⟨w.heap.size, 6, none⟩ v6) := fun v0 v1 v2 v3 v4 v5 v6 =>
    (((((((Below.refl _ _).setCell (p := ⟨w.heap.size, 0, none⟩) (Nat.le_refl _) v0).setCell (p := ⟨w.heap.size, 1, none⟩) (Nat.le_refl _) v1).setCell (p := ⟨w.heap.size, 2, none⟩) (Nat.le_refl _) v2).setCell (p := ⟨w.heap.size, 3, none⟩) (Nat.le_refl _) v3).setCell (p := ⟨w.heap.size, 4, none⟩) (Nat.le_refl _) v4).setCell (p := ⟨w.heap.size, 5, none⟩) (Nat.le_refl _) v5).setCell (p := ⟨w.heap.size, 6, none⟩) (Nat.le_refl _) v6
  have HF := Lib.hid hfin
  clear hfin
  obtain ⟨q0, q1', q2, q3, q4, q5, q6, f0, f1, f2, f3, f4, f5, f6⟩ := hE4
  have hown : ∀ (v0 v1 v2 v3 v4 v5 v6 : Value), OwnE w.heap.size (((((((w4.setCell ⟨w.heap.size, 0, none⟩ v0).setCell ⟨w.heap.size, 1, none⟩ v1).setCell ⟨w.heap.size, 2, none⟩ v2).setCell ⟨w.heap.size, 3, none⟩ v3).setCell ⟨w.heap.size, 4, none⟩ v4).setCell ⟨w.heap.size, 5, none⟩ v5).setCell ⟨w.heap.size, 6, none⟩ v6) (.slice y1 L.length q1) L := fun v0 v1 v2 v3 v4 v5 v6 =>
    (((((((ho4.setBelow (a := ⟨w.heap.size, 0, none⟩) hlb v0).setBelow (a := ⟨w.heap.size, 1, none⟩) hlb v1).setBelow (a := ⟨w.heap.size, 2, none⟩) hlb v2).setBelow (a := ⟨w.heap.size, 3, none⟩) hlb v3).setBelow (a := ⟨w.heap.size, 4, none⟩) hlb v4).setBelow (a := ⟨w.heap.size, 5, none⟩) hlb v5).setBelow (a := ⟨w.heap.size, 6, none⟩) hlb v6).mono (Nat.le_of_lt hlb)
  have HO := Lib.hid hown
  clear hown ho4
  go_wp2_with fail
  refine bodyPost_ret (v := .tuple #[.slice y1 L.length q1, .agg #[.int .i64 x, .int .i64 c, .int .i64 s, .int .i64 k, .int .i64 o, .int .i64 d, .int .i64 v]]) (by simp [results, Try.results28, go_sem, q0, q1', q2, q3, q4, q5, q6]) rfl ?_
  exact ⟨_, L, x, c, s, k, o, d, v, rfl, hL, HO.out _ _ _ _ _ _ _, hB4.trans ((HF.out _ _ _ _ _ _ _).mono (Nat.le_refl _))⟩
end Go.Proofs.Ytbnepdecfnhgoaa.kit
namespace Go.Proofs.Ytbnepdecfnhgoaa.kit
open Go.ChangeShapes Go.WideShapes Go.ChangeAt Go.RowKit
set_option linter.unusedVariables false
set_option maxRecDepth 100000

theorem big_yes (A : Option Addr) (len cap : Nat) (w : World) (h : 1048576 < len) (h2 : len ≤ 9223372036854775807) : Calls Try.prog 9 #[.slice A len cap] w fun e w' => e = .returned (.bool true) ∧ w = w' := by
  have hd : decide ((1048576 : Int) < (len : Int)) = true := by simp; omega
  have HD := Lib.hid hd
  clear hd
  go_enter Try.func9, Try.ntmps9
  go_wp2_with fail
  go_ret
  exact ⟨by rw [← HD.out]; rfl, rfl⟩
theorem big_no (A : Option Addr) (len cap : Nat) (w : World) (h : ¬ 1048576 < len) : Calls Try.prog 9 #[.slice A len cap] w fun e w' => e = .returned (.bool false) ∧ w = w' := by
  have hd : decide ((1048576 : Int) < (len : Int)) = false := by simp; omega
  have HD := Lib.hid hd
  clear hd
  go_enter Try.func9, Try.ntmps9
  go_wp2_with fail
  go_ret
  exact ⟨by rw [← HD.out]; rfl, rfl⟩
end Go.Proofs.Ytbnepdecfnhgoaa.kit
