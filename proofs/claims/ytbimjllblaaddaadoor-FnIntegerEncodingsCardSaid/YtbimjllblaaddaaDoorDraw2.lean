/-
  The specification's draws, on: the cursor's making; a number out of a short list; the draws of chapter 1.
-/
import Derived.Test.YtbimjllblaaddaaDoorDraw
namespace Go.Proofs.YtbimjllblaaddaaDoor.kit
open Go.ChangeShapes Go.WideShapes Go.ChangeAt Go.RowKit
set_option linter.unusedVariables false

theorem IsRow.below {k : IntKind} {w w' : World} {B : Nat} {a : Option Addr} {len cap : Nat} {zs : List Int} (h : IsRow k w a len cap zs) (hb : Below B w w') (hlow : ∀ x, a = some x → 0 < zs.length → x.block < B) : IsRow k w' a len cap zs := by
  rcases h with h | ⟨x, hx, h1, h2, h3, h4, h5⟩
  · exact .inl h
  · exact .inr ⟨x, hx, h1, h2, h3, fun i hi => by rw [hb.cell (by rw [block_add]; exact hlow x hx (by omega))]; exact h4 i hi, h5⟩
theorem cur_new {A : Option Addr} {len cap : Nat} {zs : List Int} {w : World} {hh : Int} (hrow : IsRow .u8 w A len cap zs) (hlow : ∀ x, A = some x → 0 < zs.length → x.block < w.heap.size) :
    Cur w.heap.size (w.alloc (.cells #[.slice A len cap, .int .i64 0, .int .i64 hh] 49)) ∧ Below w.heap.size w (w.alloc (.cells #[.slice A len cap, .int .i64 0, .int .i64 hh] 49)) := by
  have hb := (Below.refl w.heap.size w).alloc (Nat.le_refl _) (.cells #[.slice A len cap, .int .i64 0, .int .i64 hh] 49)
  exact ⟨⟨A, len, cap, zs, 0, hh, Nat.zero_le _, heap_alloc_new w _, hrow.below hb hlow, hlow⟩, hb⟩
set_option maxHeartbeats 1000000 in
set_option maxRecDepth 100000 in
theorem new_any (A : Option Addr) (len cap : Nat) (zs : List Int) (w : World) (hrow : IsRow .u8 w A len cap zs) (hlow : ∀ x, A = some x → 0 < zs.length → x.block < w.heap.size) :
    Calls Tryd.prog 21 #[.slice A len cap] w fun e w' => e = .returned (.pointer (some ⟨w.heap.size, 0, none⟩)) ∧ Cur w.heap.size w' ∧ Below w.heap.size w w' := by
  have hl : len ≤ 9223372036854775807 := by
    rcases hrow with ⟨_, h, _⟩ | ⟨_, _, h1, h2, _⟩
    · omega
    · unfold maxLen at h2; omega
  have HR := Lib.hid hrow
  go_enter Tryd.func21, Tryd.ntmps21
  go_wp2_with fail
  go_loop [3, 4] (fun h i => ∃ (k : Nat) (hh : Int), k ≤ len ∧ i = .int .i64 k ∧ h = .int .i64 hh) (fun _ i => len - (intOf i).toNat)
  case atStart => exact ⟨0, _, Nat.zero_le _, rfl, rfl⟩
  case round =>
    obtain ⟨k, hh, hk, rfl, rfl⟩ := hrel
    by_cases hlt : k < len
    · by_cases h4 : k < 4000
      · obtain ⟨x, rfl, h1, h2, h3, h4', h5⟩ : ∃ x, A = some x ∧ len ≤ cap ∧ cap ≤ maxLen ∧ zs.length = cap ∧ (∀ i, i < zs.length → w.cell? (x.add i) = some (.int .u8 (zs.getD i 0))) ∧ ∀ n ∈ zs, (Lit.int .u8 n).wf = true := by
          rcases HR.out with ⟨_, hl, _⟩ | ⟨x, hx, r⟩
          · omega
          · exact ⟨x, hx, r⟩
        obtain ⟨z, hz⟩ : ∃ z, w.cell? (x.add k) = some (.int .u8 z) := ⟨_, h4' k (by omega)⟩
        clear h4' h5 h3
        go_wp2_with fail
        go_round
        case rel => exact ⟨k + 1, _, by omega, by go_num, rfl⟩
        case measure => simp [intOf]; omega
      · go_wp2_with fail
        go_ret
        exact ⟨rfl, cur_new HR.out hlow⟩
    · go_wp2_with fail
      go_ret
      exact ⟨rfl, cur_new HR.out hlow⟩
def fits (y : Int) : Prop := -9223372036854775808 ≤ y ∧ y ≤ 9223372036854775807
set_option maxRecDepth 100000 in
theorem pickInt_any (g b n : Nat) (cs : Array Value) (w : World) (hn : 0 < n) (hn2 : n ≤ 1000) (hc : Cur g w) (hb : w.heap[b]? = some (.cells cs 3 (0, 0))) (hbg : b ≠ g) (hcs : ∀ j, j < n → ∃ y : Int, cs[j]? = some (.int .i64 y) ∧ fits y) :
    Calls Tryd.prog 30 #[.pointer (some ⟨g, 0, none⟩), .slice (some ⟨b, 0, none⟩) n n] w fun e w' => ∃ y : Int, e = .returned (.int .i64 y) ∧ fits y ∧ Drew g w w' := by
  have C1 := Lib.hid (below_pos g n w (by omega) (by omega) hc)
  have HB := Lib.hid hb
  have HCS := Lib.hid hcs
  clear hb hcs
  have hlt := (Array.getElem?_eq_some_iff.1 HB.out).1
  go_enter Tryd.func30, Tryd.ntmps30
  go_wp2_with fail
  refine (C1.out).mono ?_
  rintro e w1 ⟨y, rfl, hy0, hy1, hd⟩
  obtain ⟨j, rfl⟩ := Int.eq_ofNat_of_zero_le hy0
  obtain ⟨v, hv, hfit⟩ := HCS.out j (by omega)
  have hcell : w1.cell? ⟨b, j, none⟩ = some (.int .i64 v) := by
    rw [World.cell?_of_block (a := ⟨b, j, none⟩) (hd.1.block b hlt (fun e => hbg (Option.some.inj e))), cell_of_row w b j _ _ _ HB.out, hv]
  have HF := Lib.hid hfit
  clear hv hfit
  go_wp2_with fail
  go_ret
  exact ⟨v, rfl, HF.out, hd⟩
theorem grown_alloc {a w : World} {row : Option Nat} (h : a.grownBy w row) (o : Obj) : a.grownBy (w.alloc o) row :=
  ⟨h.os, h.tape, h.output, Nat.le_trans h.size (by simp), fun i hi hne => (Below.heap_alloc w o i (Nat.lt_of_lt_of_le hi h.size)).trans (h.block i hi hne)⟩
theorem Cur.grown {g : Nat} {w w' : World} (h : Cur g w) (hg : w.grownBy w' none) : Cur g w' := by
  have hgs := h.lt
  obtain ⟨A, len, cap, zs, i, hh, hi, hb, hrow, hlow⟩ := h
  have hg' : w.grownBy w' (some g) := ⟨hg.os, hg.tape, hg.output, hg.size, fun k hk hne => hg.block k hk (by simp)⟩
  exact ⟨A, len, cap, zs, i, hh, hi, (hg.block g hgs (by simp)).trans hb, hrow.grown hg' hlow hgs, hlow⟩
theorem Drew.alloc {g : Nat} {a w : World} (h : Drew g a w) (o : Obj) : Drew g a (w.alloc o) := ⟨grown_alloc h.1 o, h.2.grown (World.grownBy_alloc w o none)⟩
theorem Drew.refl {g : Nat} {w : World} (h : Cur g w) : Drew g w w := ⟨grown_refl w _, h⟩
def nums : List Int := [-1, 0, 127, 128, 255, 256, 16383, 16384, 65535, 65536, 562949953421311, 562949953421312, 999999999, 1000000000, -999999999, 9223372036854775807, -9223372036854775808]
theorem nums_fit : ∀ y ∈ nums, fits y := by unfold nums fits; decide
theorem lits (zs : List Int) (h : ∀ y ∈ zs, fits y) : ∀ j, j < zs.length → ∃ y : Int, ((zs.map (Value.int .i64)).toArray)[j]? = some (.int .i64 y) ∧ fits y := fun j hj => ⟨zs[j], by simp [hj], h _ (List.getElem_mem hj)⟩
set_option maxRecDepth 100000 in
set_option maxHeartbeats 2000000 in
theorem num_any (g : Nat) (w : World) (hc : Cur g w) : Calls Tryd.prog 22 #[.pointer (some ⟨g, 0, none⟩)] w fun e w' => ∃ y : Int, e = .returned (.int .i64 y) ∧ fits y ∧ Drew g w w' := by
  have C8 := Lib.hid (below_pos g 8 w (by decide) (by decide) hc)
  have C9 := fun W (h : Cur g W) => Lib.hid (below_pos g 1000000000 W (by decide) (by decide) h)
  have C5 := fun W (h : Cur g W) => Lib.hid (below_pos g 100000 W (by decide) (by decide) h)
  have C7 := fun W (h : Cur g W) => Lib.hid (below_pos g 70000 W (by decide) (by decide) h)
  go_enter Tryd.func22, Tryd.ntmps22
  go_wp2_with fail
  refine (C8.out).mono ?_
  rintro e w1 ⟨y, rfl, hy0, hy1, hd⟩
  by_cases h0 : y = 0
  · subst h0
    go_wp2_with fail
    have hne : w1.heap.size ≠ g := by have := hd.2.lt; omega
    refine (pickInt_any g _ 17 _ _ (by omega) (by omega) (hd.alloc _).2 (heap_alloc_new _ _) hne (lits nums nums_fit)).mono ?_
    rintro e w2 ⟨y2, rfl, hf, hd2⟩
    go_wp2_with fail
    go_ret
    exact ⟨y2, rfl, hf, (hd.alloc _).trans hd2⟩
  · by_cases h1 : y = 1
    · subst h1
      go_wp2_with fail
      refine ((C9 _ hd.2).out).mono ?_
      rintro e w2 ⟨y2, rfl, hy20, hy21, hd2⟩
      go_wp2_with fail
      refine ((C9 _ hd2.2).out).mono ?_
      rintro e w3 ⟨y3, rfl, hy30, hy31, hd3⟩
      have hmul : 0 ≤ y2 * y3 ∧ y2 * y3 ≤ 1000000000000000000 := by
        refine ⟨Int.mul_nonneg hy20 hy30, ?_⟩
        exact Int.le_trans (Int.mul_le_mul (show y2 ≤ 1000000000 by omega) (show y3 ≤ 1000000000 by omega) hy30 (by decide)) (by decide)
      go_wp2_with fail
      go_ret
      exact ⟨y2 * y3, rfl, ⟨by omega, by omega⟩, (hd.trans hd2).trans hd3⟩
    · by_cases h2 : y = 2
      · subst h2
        go_wp2_with fail
        refine ((C5 _ hd.2).out).mono ?_
        rintro e w2 ⟨y2, rfl, hy20, hy21, hd2⟩
        go_wp2_with fail
        go_ret
        exact ⟨-y2, rfl, ⟨by omega, by omega⟩, hd.trans hd2⟩
      · have g0 : (y == 0) = false := by rw [beq_eq_false_iff_ne]; exact h0
        have g1 : (y == 1) = false := by rw [beq_eq_false_iff_ne]; exact h1
        have g2 : (y == 2) = false := by rw [beq_eq_false_iff_ne]; exact h2
        clear h0 h1 h2
        go_wp2_with fail
        refine ((C7 _ hd.2).out).mono ?_
        rintro e w2 ⟨y2, rfl, hy20, hy21, hd2⟩
        go_wp2_with fail
        go_ret
        exact ⟨y2, rfl, ⟨by omega, by omega⟩, hd.trans hd2⟩
theorem OwnB.snoc_int {e : TypeId} {base : Nat} {w : World} {v : Value} {l : List UInt8} {z : Int} (h : w.ownsRow base e 1 v (l.length + 1) ((l.map fun x => Value.int .u8 x.toNat) ++ [Value.int .u8 z])) (h0 : 0 ≤ z) (h1 : z ≤ 255) : OwnB e base w v (l ++ [UInt8.ofNat z.toNat]) :=
  OwnB.snoc h (by simp; omega)
theorem Cur.below {g B : Nat} {w w' : World} (h : Cur g w) (hb : Below B w w') (hg : g < B) : Cur g w' := by
  obtain ⟨A, len, cap, zs, i, hh, hi, hbl, hrow, hlow⟩ := h
  exact ⟨A, len, cap, zs, i, hh, hi, (hb.block g hg).trans hbl, hrow.below hb (fun x hx h0 => Nat.lt_trans (hlow x hx h0) hg), hlow⟩
theorem Drew.below {g : Nat} {a w w' : World} (h : Drew g a w) (hb : Below a.heap.size w w') (hg : g < a.heap.size) : Drew g a w' :=
  ⟨⟨hb.os.trans h.1.os, hb.tape.trans h.1.tape, hb.output.trans h.1.output, Nat.le_trans h.1.size hb.size, fun k hk hne => (hb.block k hk).trans (h.1.block k hk hne)⟩, h.2.below hb hg⟩
theorem own_drew {g : Nat} {w w' : World} {base : Nat} {e : TypeId} {size : Nat} {v : Value} {n : Nat} {xs : List Value} (h : w.ownsRow base e size v n xs) (hd : Drew g w w') (hg : g < base) : w'.ownsRow base e size v n xs :=
  h.kept hd.1 (by
    cases hv : v.ownBlock with
    | none => exact .inl rfl
    | some k => right; intro e; have := (h.lt k hv).1; have := Option.some.inj e; omega)
theorem infoU8t : (Tryd.prog.info? 5).map (fun i => (i.zero, i.size, i.bytes)) = some (some (.int .u8 0), 1, 1) := by kernel_rfl
set_option maxRecDepth 100000 in
set_option maxHeartbeats 2000000 in
theorem text_any (g most : Nat) (w : World) (hm : most ≤ 1000000) (hc : Cur g w) : Calls Tryd.prog 23 #[.pointer (some ⟨g, 0, none⟩), .int .i64 most] w fun e w' => ∃ l : List UInt8, e = .returned (str l) ∧ l.length ≤ most ∧ Drew g w w' := by
  have hgs := hc.lt
  have C4 := fun W (h : Cur g W) => Lib.hid (below_pos g 4 W (by decide) (by decide) h)
  have CM := fun W (h : Cur g W) => Lib.hid (below_pos g ((most : Int) + 1) W (by omega) (by omega) h)
  have CB := fun W (h : Cur g W) => Lib.hid (byte_any g W h)
  go_enter Tryd.func23, Tryd.ntmps23
  go_wp2_with fail
  have hd0 := (Drew.refl hc).alloc (.cells #[] 5)
  refine ((C4 _ hd0.2).out).mono ?_
  rintro e w1 ⟨st, rfl, hst0, hst1, hd1⟩
  go_wp2_with fail
  refine ((CM _ hd1.2).out).mono ?_
  rintro e w2 ⟨y, rfl, hy0, hy1, hd2⟩
  go_wp2_with fail
  obtain ⟨n0, rfl⟩ := Int.eq_ofNat_of_zero_le hy0
  have hown0 : OwnB 5 w.heap.size w2 (.slice (some ⟨w.heap.size, 0, none⟩) 0 0) [] :=
    own_drew (own_drew (World.ownsRow_lit w #[] 0 (Nat.le_refl _) (Nat.zero_le _) rfl) hd1 hgs) hd2 hgs
  have hD0 := (hd0.trans hd1).trans hd2
  go_loopw [5, 7, 8] (fun v n b wr => ∃ (k : Nat) (l : List UInt8), n = .int .i64 k ∧ l.length + k ≤ most ∧ OwnB 5 w.heap.size wr v l ∧ Drew g w wr) (fun _ n _ _ => (intOf n).toNat)
  case atStart => exact ⟨n0, [], rfl, by simp; omega, hown0, hD0⟩
  case round =>
    obtain ⟨k, l, rfl, hkl, hown, hD⟩ := hrel
    by_cases hk : 0 < k
    · go_wp2_with fail
      refine ((CB _ hD.2).out).mono ?_
      rintro e w3 ⟨x, rfl, hx0, hx1, hd3⟩
      have hown3 := own_drew hown.row hd3 hgs
      have hD3 := hD.trans hd3
      go_wp2_with (at_builtin; refine wpList_push1 rfl _ _ 22 rfl w.heap.size 5 (.int .u8 0) 1 Tryd.underlying22 infoU8t rfl _ _ _ rfl hown3 _ 1 rfl (by rfl) (by omega) (by omega) hD3.1.size ?_; intro v' w4 hown4 hb4 hg4)
      all_goals
        go_roundw
        case rel =>
          refine ⟨k - 1, l ++ [_], by go_num, by simp; omega, OwnB.snoc_int hown4 (by omega) (by omega), hD3.below hb4 hgs⟩
        case measure => simp [intOf]; omega
    · have hcv := hown.conv (dst := 9) Tryd.underlying22 Tryd.underlying5 Tryd.underlying9
      go_wp2_with fail
      go_ret
      exact ⟨l, rfl, by omega, hD⟩
end Go.Proofs.YtbimjllblaaddaaDoor.kit
