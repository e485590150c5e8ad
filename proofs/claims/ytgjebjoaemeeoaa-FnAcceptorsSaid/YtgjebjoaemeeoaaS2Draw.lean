/-
  The draws of chapter 2: lists of at most six numbers; below the heap's old size nothing turns.
-/
import Derived.Test.YtgjebjoaemeeoaaC1Draw
import Derived.Test.YtgjebjoaemeeoaaInts
namespace Go.Proofs.Ytgjebjoaemeeoaa.kit
open Go.ChangeShapes Go.WideShapes Go.ChangeAt Go.RowKit
set_option linter.unusedVariables false
set_option linter.unusedSimpArgs false

theorem OwnI.drew {g : Nat} {w w' : World} {base : Nat} {v : Value} {l : List Int} (h : OwnI base w v l) (hd : Drew g w w') (hg : g < base) : OwnI base w' v l := own_drew h.row hd hg
theorem OwnI.source {base : Nat} {w : World} {v : Value} {l : List Int} (h : OwnI base w v l) : SrcI w.heap.size w v l := by
  rcases h.2 with ⟨rfl, h0⟩ | ⟨g, c, cur, rfl, hg, hh, hn, hm, _⟩
  · exact .inl ⟨rfl, List.eq_nil_of_length_eq_zero h0⟩
  · refine SrcI.row (Array.getElem?_eq_some_iff.1 hh).1 rfl (fun j hj => ?_)
    rw [h.row.cellAt j (by omega), List.getElem?_map, List.getElem?_eq_getElem hj]
    simp [List.getD, hj]
theorem once_any (g : Nat) (n : Int) (w : World) (hn : 1 ≤ n) (hn2 : n ≤ 256) (hc : Cur g w) :
    Calls Try.prog 49 #[.pointer (some ⟨g, 0, none⟩), .int .i64 n] w fun e w' => ∃ b : Bool, e = .returned (.bool b) ∧ Drew g w w' := by
  have C1 := Lib.hid (below_small g n w hn hn2 hc)
  go_enter Try.func49, Try.ntmps49
  go_wp2_with fail
  refine (C1.out).mono ?_
  rintro e w1 ⟨y, rfl, _, _, hd⟩
  go_wp2_with fail
  go_ret
  exact ⟨_, rfl, hd⟩
theorem litsI (zs : List Int) (h : ∀ y ∈ zs, fits y) : ∀ j, j < zs.length → ∃ y : Int, ((zs.map (Value.int .i64)).toArray)[j]? = some (.int .i64 y) ∧ fits y := fun j hj => ⟨zs[j], by simp [hj], h _ (List.getElem_mem hj)⟩
theorem pick_lits {g : Nat} {w : World} (hc : Cur g w) (zs : List Int) (h0 : 0 < zs.length) (h1 : zs.length ≤ 1000) (h : ∀ y ∈ zs, fits y) :
    Calls Try.prog 31 #[.pointer (some ⟨g, 0, none⟩), .slice (some ⟨w.heap.size, 0, none⟩) zs.length zs.length] (w.alloc (.cells ((zs.map (Value.int .i64)).toArray) 3)) fun e w' => ∃ y : Int, e = .returned (.int .i64 y) ∧ fits y ∧ Drew g w w' := by
  have hD := (Drew.refl hc).alloc (.cells ((zs.map (Value.int .i64)).toArray) 3)
  exact (pickInt_any g w.heap.size zs.length _ _ h0 h1 hD.2 (heap_alloc_new w _) (by have := hc.lt; omega) (litsI zs h)).mono fun e w' ⟨y, he, hf, hd⟩ => ⟨y, he, hf, hD.trans hd⟩
set_option maxRecDepth 100000 in
theorem some_any (g : Nat) (w : World) (hc : Cur g w) :
    Calls Try.prog 65 #[.pointer (some ⟨g, 0, none⟩)] w fun e w' => ∃ (v : Value) (l : List Int), e = .returned v ∧ l.length ≤ 5 ∧ OwnI w.heap.size w' v l ∧ Drew g w w' := by
  have hgs := hc.lt
  have C2 := fun W (h : Cur g W) => Lib.hid (once_any g 2 W (by decide) (by decide) h)
  have hd0 := (Drew.refl hc).alloc (.cells #[] 3)
  go_enter Try.func65, Try.ntmps65
  go_wp2_with fail
  go_loopw [3, 4] (fun v n wr => ∃ (k : Nat) (l : List Int), n = .int .i64 k ∧ k ≤ 5 ∧ l.length ≤ k ∧ OwnI w.heap.size wr v l ∧ Drew g w wr) (fun _ n _ => 5 - (intOf n).toNat)
  case atStart => exact ⟨0, [], rfl, by omega, by simp, World.ownsRow_lit w #[] 0 (Nat.le_refl _) (Nat.zero_le _) rfl, hd0⟩
  case round =>
    obtain ⟨k, l, rfl, hk, hl, hown, hD⟩ := hrel
    by_cases hlt : k < 5
    · go_wp2_with fail
      refine ((C2 _ hD.2).out).mono ?_
      rintro e w3 ⟨b, rfl, hd3⟩
      have hown3 := hown.drew hd3 hgs
      have hrow3 := hown3.row
      have hD3 := hD.trans hd3
      cases b
      · go_wp2_with fail
        go_roundw
        case rel => exact ⟨k + 1, l, by go_num, by omega, by omega, hown3, hD3⟩
        case measure => simp [intOf]; omega
      · go_wp2_with (at_builtin; refine wpList_push1 rfl _ _ 24 rfl w.heap.size 3 (.int .i64 0) 8 Try.underlying24 infoI rfl _ _ _ rfl hrow3 _ 1 rfl (by rfl) (by omega) (by omega) hD3.1.size ?_; intro v' w4 hown4 hb4 hg4)
        go_roundw
        case rel => exact ⟨k + 1, l ++ [_], by go_num, by omega, by simp; omega, OwnI.snoc hown4, hD3.below hb4 hgs⟩
        case measure => simp [intOf]; omega
    · go_wp2_with fail
      go_ret
      exact ⟨_, l, rfl, by omega, hown, hD⟩
set_option maxRecDepth 100000 in
theorem any_any (g : Nat) (w : World) (hc : Cur g w) :
    Calls Try.prog 55 #[.pointer (some ⟨g, 0, none⟩)] w fun e w' => ∃ (v : Value) (l : List Int), e = .returned v ∧ l.length ≤ 6 ∧ OwnI w.heap.size w' v l ∧ Drew g w w' := by
  have hgs := hc.lt
  have C1 := Lib.hid (some_any g w hc)
  go_enter Try.func55, Try.ntmps55
  go_wp2_with fail
  refine (C1.out).mono ?_
  rintro e w1 ⟨v1, l, rfl, hl, ho1, hd1⟩
  have C2 := Lib.hid (once_any g 8 w1 (by decide) (by decide) hd1.2)
  go_wp2_with fail
  refine (C2.out).mono ?_
  rintro e w2 ⟨b, rfl, hd2⟩
  have hD2 := hd1.trans hd2
  have ho2 := ho1.drew hd2 hgs
  clear C1 C2
  cases b
  · go_wp2_with fail
    go_ret
    exact ⟨_, l, rfl, by omega, ho2, hD2⟩
  · have hz := hD2.1.size
    have hDa := Drew.alloc (Drew.refl hD2.2) (.cells #[.int .i64 (-1), .int .i64 0, .int .i64 4, .int .i64 5] 3)
    have C3 := Lib.hid (pickInt_any g w2.heap.size 4 #[.int .i64 (-1), .int .i64 0, .int .i64 4, .int .i64 5] (w2.alloc (.cells #[.int .i64 (-1), .int .i64 0, .int .i64 4, .int .i64 5] 3)) (by decide) (by decide)
      hDa.2 (heap_alloc_new w2 _) (by omega) (fun j hj => by
        rcases (by omega : j = 0 ∨ j = 1 ∨ j = 2 ∨ j = 3) with rfl | rfl | rfl | rfl
        · exact ⟨-1, rfl, by unfold fits; omega⟩
        · exact ⟨0, rfl, by unfold fits; omega⟩
        · exact ⟨4, rfl, by unfold fits; omega⟩
        · exact ⟨5, rfl, by unfold fits; omega⟩))
    go_wp2_with fail
    refine (C3.out).mono ?_
    rintro e w3 ⟨y, rfl, hf, hd3⟩
    have hDd := hDa.trans hd3
    have ho3 := ho2.drew hDd hgs
    have hrow3 := ho3.row
    have hD3 := hD2.trans hDd
    clear C3
    go_wp2_with (at_builtin; refine wpList_push1 rfl _ _ 24 rfl w.heap.size 3 (.int .i64 0) 8 Try.underlying24 infoI rfl _ _ _ rfl hrow3 _ 1 rfl (by rfl) (by omega) (by omega) hD3.1.size ?_; intro v' w4 hown4 hb4 hg4)
    go_ret
    exact ⟨_, l ++ [y], rfl, by simp; omega, OwnI.snoc hown4, hD3.below hb4 hgs⟩
end Go.Proofs.Ytgjebjoaemeeoaa.kit
