/-
  The program's three sentinels, out of what a row lists; a world that holds them; three variables read again.
-/
import Derived.Test.YtibpajlfcknegaaDoorKitLaid
import Derived.Test.YtibpajlfcknegaaDoorS7RecvI
import Derived.Stop.LaidTwo
import Derived.OpenVars
namespace Go.Proofs.YtibpajlfcknegaaDoor.kit
open Go.ChangeShapes Go.WideShapes Go.ChangeAt Go.RowKit
set_option linter.unusedVariables false

/-- the library's MaxLen and the three sentinels -/
def MS (w : World) : Prop := Mx w ∧ ∃ a0 a1 a2, Sen w a0 a1 a2
theorem MS.below {w w' : World} (h : MS w) (hb : Below w.heap.size w w') : MS w' := by
  obtain ⟨h1, a0, a1, a2, h2⟩ := h
  exact ⟨h1.below hb, a0, a1, a2, h2.below hb⟩
theorem gS0 : Tryd.prog.globalNamed "loop.example/g01926/impl.errNoPlaces" = some 0 := by kernel_rfl
theorem gS1 : Tryd.prog.globalNamed "loop.example/g01926/impl.errOtherTotal" = some 1 := by kernel_rfl
theorem gS2 : Tryd.prog.globalNamed "loop.example/g01926/impl.errTaken" = some 2 := by kernel_rfl
theorem gST0 : (Tryd.prog.globals[0]?).map (·.type) = some 73 := by kernel_rfl
theorem gST1 : (Tryd.prog.globals[1]?).map (·.type) = some 73 := by kernel_rfl
theorem gST2 : (Tryd.prog.globals[2]?).map (·.type) = some 73 := by kernel_rfl
theorem cellsES : Tryd.prog.cellsOf 170 = 1 := by kernel_rfl
theorem cellsStr : Tryd.prog.cellsOf 9 = 1 := by kernel_rfl
theorem starES : "*" ++ "errors.errorString" = "*errors.errorString" := by decide
theorem rowES (u : TypeId) (h : Tryd.prog.typeName? 3 u = some "*errors.errorString") : u = 146 :=
  typeName_ptr_named (nm := "errors.errorString") (by rw [starES]; kernel_rfl) (by kernel_rfl) (by decide) u (by rw [starES]; exact h)
theorem sen_of_laid {laid : List (String × DataW Unit)} {W : World}
    (he1 : laid.filter (fun x => x.1 == "loop.example/g01926/impl.errNoPlaces" || x.1 == "loop.example/g01926/impl.errOtherTotal") = [("loop.example/g01926/impl.errNoPlaces", Rows.laid_loop_example_g01926_impl_errNoPlaces), ("loop.example/g01926/impl.errOtherTotal", Rows.laid_loop_example_g01926_impl_errOtherTotal)])
    (he2 : laid.filter (fun x => x.1 == "loop.example/g01926/impl.errNoPlaces" || x.1 == "loop.example/g01926/impl.errTaken") = [("loop.example/g01926/impl.errNoPlaces", Rows.laid_loop_example_g01926_impl_errNoPlaces), ("loop.example/g01926/impl.errTaken", Rows.laid_loop_example_g01926_impl_errTaken)])
    (h : laidMetH Tryd.prog laid W) : ∃ a0 a1 a2, Sen W a0 a1 a2 := by
  have h1 := h.filter fun x => x.1 == "loop.example/g01926/impl.errNoPlaces" || x.1 == "loop.example/g01926/impl.errOtherTotal"
  have h2 := h.filter fun x => x.1 == "loop.example/g01926/impl.errNoPlaces" || x.1 == "loop.example/g01926/impl.errTaken"
  rw [he1] at h1
  rw [he2] at h2
  obtain ⟨a0, a1, _, _, c0, c1, t0, t1, hv0, hv1, _, _, _, _, _, _, hne, hb0, hb1⟩ := laid_sentinels2 (r := []) h1 gS0 gST0 gS1 gST1 Tryd.underlying73 rowES Tryd.underlying146 Tryd.underlying170 rfl rfl Tryd.underlying9 cellsES cellsStr
  obtain ⟨b0, a2, _, _, d0, c2, u0, t2, hw0, hv2, _, _, _, _, _, _, hne2, _, hb2⟩ := laid_sentinels2 (r := []) h2 gS0 gST0 gS2 gST2 Tryd.underlying73 rowES Tryd.underlying146 Tryd.underlying170 rfl rfl Tryd.underlying9 cellsES cellsStr
  have e : b0 = a0 := by
    have := hw0.symm.trans hv0
    simpa using this
  rw [e] at hne2
  exact ⟨a0, a1, a2, by simpa using World.var?_cell gS0 hv0 0, by simpa using World.var?_cell gS1 hv1 0, by simpa using World.var?_cell gS2 hv2 0, Ne.symm hne, Ne.symm hne2, ⟨_, _, hb0⟩, ⟨_, _, hb1⟩, ⟨_, _, hb2⟩⟩
theorem trodVars_three {H : Type} {enc : TypeId × Value → H} {P : Program} {w : World} {sp : Nat → Bool} {n0 n1 n2 : String} {gs : List (DataW H)} {ps : List MemPlace} (h : DataW.TrodVars enc P w sp [n0, n1, n2] gs ps) : ∃ g1 g2 g3, gs = [g1, g2, g3] := by
  cases gs with
  | nil => exact h.elim
  | cons g1 gs =>
    obtain ⟨_, _, _, _, _, _, _, _, _, _, h, _⟩ := h
    cases gs with
    | nil => exact h.elim
    | cons g2 gs =>
      obtain ⟨_, _, _, _, _, _, _, _, _, _, h, _⟩ := h
      cases gs with
      | nil => exact h.elim
      | cons g3 gs =>
        obtain ⟨_, _, _, _, _, _, _, _, _, _, h, _⟩ := h
        cases gs with
        | nil => exact ⟨g1, g2, g3, rfl⟩
        | cons _ _ => exact h.elim
def laidText : DataW Unit → ByteArray
  | .iface _ (.ptr (.agg [.lit (.string t)])) => ⟨t.toArray⟩
  | _ => .empty
noncomputable def low : Nat := (World.holding Tryd.prog default ⟨#[], #[], []⟩).heap.size
def laidErr (heap : Array Obj) (g k : Nat) : Array Obj :=
  heap.modify g fun
    | .cells _ t frozen => .cells #[.iface 146 (.pointer (some ⟨k, 0, none⟩))] t frozen
    | o => o
def senObjs : Array Obj := #[.cells #[.string (laidText Rows.laid_loop_example_g01926_impl_errNoPlaces)] 170, .cells #[.string (laidText Rows.laid_loop_example_g01926_impl_errOtherTotal)] 170, .cells #[.string (laidText Rows.laid_loop_example_g01926_impl_errTaken)] 170]
noncomputable def laidSen (heap : Array Obj) : Array Obj := laidErr (laidErr (laidErr heap 0 low) 1 (low + 1)) 2 (low + 2)
theorem recL_len (P : List ByteArray) (s : ByteArray) (h : P.length ≤ 4194304) : (recL P s).length ≤ 4194304 := by
  unfold recL
  split
  · rcases readC_cases s.data.toList with ⟨hr, _⟩ | ⟨i, n, d, hrd, hr⟩
    · rw [hr]; simp; omega
    · have hk := hrd.1
      unfold okK at hk
      rw [hr]; simp; omega
  · exact h
theorem implReceiveChunkM (b : Nat) (v : Value) (P : List ByteArray) (s : ByteArray) (w : World) (h : P.length ≤ 4194304) (hs : sumW P P.length ≤ 1048576) (o : OwnW b w v P) (hs2 : s.size ≤ 1048576) (hT : Tab w) (hM : MS w) :
    Calls Tryd.prog 19 #[v, .string s] w fun e w' => ∃ u, e = .returned (.tuple #[u, .bool (recOk P s)]) ∧ OwnW w.heap.size w' u (recL P s) ∧ Below w.heap.size w w' := by
  obtain ⟨h1, a0, a1, a2, h2⟩ := hM
  exact implReceiveChunk b v P s w a0 a1 a2 h hs o hs2 hT h1 h2
end Go.Proofs.YtibpajlfcknegaaDoor.kit
