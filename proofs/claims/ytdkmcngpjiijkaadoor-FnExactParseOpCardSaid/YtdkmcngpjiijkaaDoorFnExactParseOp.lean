/-
  For every string of at most 2^20 bytes (the law passes over longer ones), impl's ParseOp returns the same operation and the same bool as the specification's: the law returns true and changes nothing that was there. The card ties the library's listed tables to the program's text. No other condition.
-/
import Derived.Test.YtdkmcngpjiijkaaDoorKitLaid
import Derived.Test.YtdkmcngpjiijkaaDoorS3Parse
import Derived.Test.YtdkmcngpjiijkaaDoorS3ParseOpEnd
import Derived.Test.YtdkmcngpjiijkaaDoorCards
import Derived.Test.YtdkmcngpjiijkaaDoorTie
namespace Go.Proofs.YtdkmcngpjiijkaaDoor.fnExactParseOp
open Go.ChangeShapes Go.WideShapes Go.ChangeAt Go.RowKit
open Go.ChangeMaps (open_string shut_string)
set_option linter.unusedVariables false

theorem eqSame (c s k o d v : Int) (w : World) : Calls Tryd.prog 11 #[kit.opV c s k o d v, kit.opV c s k o d v] w fun e w' => e = .returned (.bool true) ∧ Below w.heap.size w w' := by
  unfold kit.opV
  go_enter Tryd.func11, Tryd.ntmps11
  go_wp2_with fail
  go_returns
  exact ⟨rfl, by go_grown⟩
set_option maxRecDepth 100000 in
set_option maxHeartbeats 8000000 in
theorem walk (a0 : ByteArray) (w : World) (w0 : a0.size ≤ maxLen) (hT : kit.Tab w) (hM : kit.Mx w) :
    Calls Tryd.prog 4 #[.string a0] w fun e w' => e = .returned (.bool true) ∧ Below w.heap.size w w' := by
  unfold maxLen at w0
  by_cases hbig : a0.size > 1048576
  · go_enter Tryd.func4, Tryd.ntmps4
    go_wp2_with fail
    go_ret
    exact ⟨rfl, Below.refl _ _⟩
  · have c1 := Lib.hid (kit.specParseOp a0 w (by omega))
    have c2 := fun W (hb : Below w.heap.size w W) => Lib.hid (kit.implParseOp a0 W (by omega) (hM.below hb) (hT.below hb))
    unfold kit.opT kit.opV at c1
    unfold kit.opV at c2
    generalize (kit.parO a0.data.toList).1 = c at c1 c2
    generalize (kit.parO a0.data.toList).2.1 = s at c1 c2
    generalize (kit.parO a0.data.toList).2.2.1 = k at c1 c2
    generalize (kit.parO a0.data.toList).2.2.2.1 = o at c1 c2
    generalize (kit.parO a0.data.toList).2.2.2.2.1 = d at c1 c2
    generalize (kit.parO a0.data.toList).2.2.2.2.2 = v at c1 c2
    generalize kit.parOok a0.data.toList = b at c1 c2
    go_enter Tryd.func4, Tryd.ntmps4
    go_wp2_with fail
    refine (c1.out).mono ?_
    rintro e w1 ⟨rfl, hb1⟩
    obtain ⟨W1, HW1⟩ : ∃ W, Hid (W = w1.alloc (.cells #[.int .i64 c, .int .i64 s, .int .i64 k, .int .i64 o, .int .i64 d, .int .i64 v] 25)) := ⟨_, Lib.hid rfl⟩
    have hA1 : Below w.heap.size w W1 := by rw [HW1.out]; exact hb1.alloc hb1.size _
    have h2 := Lib.hid (c2 W1 hA1)
    clear c1 c2
    go_wp2_with fail
    rw [← HW1.out]
    refine (h2.out.out).mono ?_
    rintro e w2 ⟨rfl, hb2⟩
    have hA2 := hA1.trans (hb2.mono hA1.size)
    have hlt : w1.heap.size < W1.heap.size := by rw [HW1.out]; simp
    have hq : ∀ j x, (#[Value.int .i64 c, .int .i64 s, .int .i64 k, .int .i64 o, .int .i64 d, .int .i64 v])[j]? = some x → W1.cell? ⟨w1.heap.size, j, none⟩ = some x := fun j x h => by rw [HW1.out, World.cell?_alloc_at _ _ _ _ rfl]; exact h
    have q0 := hq 0 _ rfl
    have q1 := hq 1 _ rfl
    have q2 := hq 2 _ rfl
    have q3 := hq 3 _ rfl
    have q4 := hq 4 _ rfl
    have q5 := hq 5 _ rfl
    have r0 := (hb2.cell (p := ⟨w1.heap.size, 0, none⟩) hlt).trans q0
    have r1 := (hb2.cell (p := ⟨w1.heap.size, 1, none⟩) hlt).trans q1
    have r2 := (hb2.cell (p := ⟨w1.heap.size, 2, none⟩) hlt).trans q2
    have r3 := (hb2.cell (p := ⟨w1.heap.size, 3, none⟩) hlt).trans q3
    have r4 := (hb2.cell (p := ⟨w1.heap.size, 4, none⟩) hlt).trans q4
    have r5 := (hb2.cell (p := ⟨w1.heap.size, 5, none⟩) hlt).trans q5
    have hlt2 : w1.heap.size < w2.heap.size := Nat.lt_of_lt_of_le hlt hb2.size
    have hall : ∀ (j : Nat) x, w2.cell? ⟨w1.heap.size, j, none⟩ = some x → (w2.alloc (.cells #[.int .i64 c, .int .i64 s, .int .i64 k, .int .i64 o, .int .i64 d, .int .i64 v] 25)).cell? ⟨w1.heap.size, j, none⟩ = some x := fun j x h =>
      (World.cell?_alloc_old w2 _ ⟨w1.heap.size, j, none⟩ (Nat.ne_of_lt hlt2)).trans h
    replace r0 := hall _ _ r0
    replace r1 := hall _ _ r1
    replace r2 := hall _ _ r2
    replace r3 := hall _ _ r3
    replace r4 := hall _ _ r4
    replace r5 := hall _ _ r5
    clear hall
    clear hq h2 q0 q1 q2 q3 q4 q5
    go_wp2_with fail
    refine (eqSame c s k o d v _).mono ?_
    rintro e w3 ⟨rfl, hb3⟩
    have hA3 := (hA2.alloc hA2.size (.cells #[.int .i64 c, .int .i64 s, .int .i64 k, .int .i64 o, .int .i64 d, .int .i64 v] 25)).trans (hb3.mono (by have := hA2.size; simp; omega))
    cases b
    · go_wp2_with fail
      go_ret
      exact ⟨rfl, hA3⟩
    · go_wp2_with fail
      go_ret
      exact ⟨rfl, hA3⟩

theorem contract (H : Type) (enc : TypeId × Value → H) (W : World) (base : Nat) (args : Array Value) (ds gs : List (DataW H)) (before : List MemPlace)
    (hval0 : ∀ (j : Nat) t v, Tryd.f4.params[j]? = some t → args[j]? = some v → Value.okWide Tryd.prog W .any base t v)
    (hW : DataW.Whole enc Tryd.prog Tryd.f4.params.toList Rows.fnExactParseOpSpec.vars false W args.toList ds gs before) (hL : laidMetH Tryd.prog Rows.fnExactParseOpRow.laid W) (hS : W.ShapedOpen Tryd.prog) :
    Calls Tryd.prog 4 args W fun e W' => ∃ v, e = .returned v ∧ Rows.fnExactParseOpSpec.post enc Tryd.prog Tryd.f4 false true false false W args v W' := by
  have hT : kit.Tab W := kit.tab_of_laid (by kernel_rfl) hL
  have hval : ∀ (j : Nat) t v, Tryd.f4.params[j]? = some t → args[j]? = some v → Value.okWide Tryd.prog W .any base t v := hval0
  have hW' := hW
  obtain ⟨p, q, hA0, hV, rfl, hfz, hnd⟩ := hW
  have hA : DataW.TrodAll enc Tryd.prog W 0 (fun _ => true) true Tryd.f4.params.toList args.toList ds p := hA0
  rw [Tryd.params4] at hA hval
  obtain ⟨v0, vs0, d0, ds0, p0, q0, hargs, rfl, rfl, h0, r0⟩ := trodAll_cons hA
  obtain ⟨rfl, rfl, rfl⟩ := trodAll_nil r0
  obtain rfl : args = #[v0] := by cases args; simp_all
  obtain ⟨rfl, rfl⟩ := trodVars_none hV
  obtain ⟨a0, rfl, rfl, rfl, w0⟩ := open_string Tryd.underlying9 (hval 0 9 v0 rfl rfl) h0
  clear hA0 hval0
  refine (walk a0 W w0 hT (kit.mx_of_shape hS)).mono fun e W' ⟨he, bel⟩ => ?_
  subst he
  exact ⟨_, rfl, _, _, _, [], _, [], hW', trodAll_mk1 (shut_bool Tryd.underlying4 _), (trodAll_cons_mk (shut_string Tryd.underlying9 w0) trodAll_mk0), rfl, bel.frame _, fun h => by cases h⟩

noncomputable def laidWorld (os : Os) : World :=
  { World.holding Tryd.prog os ⟨#[], #[], []⟩ with heap := (kit.laidCells (kit.laidCells (kit.laidCells (kit.laidCells (kit.laidCells (World.holding Tryd.prog os ⟨#[], #[], []⟩).heap 4 Rows.laid_math_bits_deBruijn32tab) 5 Rows.laid_math_bits_deBruijn64tab) 1 Rows.laid_internal_strconv_uint64pow10) 3 Rows.laid_unicode_utf8_acceptRanges) 2 Rows.laid_unicode_utf8_first) }
theorem laid_met (os : Os) : laidMet Tryd.prog Rows.fnExactParseOpRow.laid ((laidWorld os).forCall (fun _ _ => 0) ⟨#[], #[.string ByteArray.empty], []⟩).memory :=
  laidMet_of_run' 8 (by kernel_rfl) (by kernel_rfl)
theorem reads (os : Os) {H : Type} (enc : TypeId × Value → H) : ∃ places, DataW.whole enc Tryd.prog ((laidWorld os).forCall (fun _ _ => 0) ⟨#[], #[.string ByteArray.empty], []⟩).memory Tryd.f4.params.toList Rows.fnExactParseOpSpec.vars false (#[.string ByteArray.empty] : Array Value).toList 8 = some ([.lit (.string [])], [], places) :=
  ⟨[], by kernel_rfl⟩
set_option maxRecDepth 100000 in
theorem lifted (os : Os) (started : os.Started) (H : Type) (enc : TypeId × Value → H) (F : Stop.Interp) :
    ReturnsInHanded {} Tryd.checked os 4 .any ((OpenSpec.ofChange Rows.fnExactParseOpSpec).preRow enc Tryd.prog Tryd.f4 Rows.fnExactParseOpRow.domain false Rows.fnExactParseOpRow.laid) (((OpenSpec.ofChange Rows.fnExactParseOpSpec).at F).post enc Tryd.prog Tryd.f4 false true false false) := by
  obtain ⟨places, hx⟩ := reads os enc
  refine returnsInHanded_of_row (C := Tryd.checked) (s := OpenSpec.ofChange Rows.fnExactParseOpSpec) kit.own started (by kernel_rfl) Tryd.func4
    (witness_row_at (enc := enc) (C := Tryd.checked) false (laidWorld os) #[.string ByteArray.empty] rfl (by kernel_rfl) (by kernel_rfl) (by kernel_rfl)
      (OpenSpec.preRow_of_cond 8 hx (by kernel_rfl) (fun k hk => by cases hk) (by kernel_rfl) (laid_met os))) ?_
  intro W base args ds gs before hval hW _ _ _ hL hS _
  exact contract H enc W base args ds gs before hval hW hL hS
theorem said : Rows.FnExactParseOpSaid :=
  OpenClaim.holds_of_cond 4 Tryd.f4 rfl rfl rfl rfl rfl rfl rfl ⟨rfl, rfl, rfl, rfl, rfl⟩ rfl rfl rfl rfl rfl (by kernel_rfl) Tryd.func4 (by kernel_rfl)
    (of_decide_eq_true (by kernel_rfl)) (by unfold Func.isWrapper; first | (rw [if_pos (by decide +kernel)]; kernel_rfl) | (rw [if_neg (by decide +kernel)]; exact ⟨rfl, rfl⟩))
    (fun os started H enc _ F => by rw [OpenClaim.pre_eq_preRow]; exact lifted os started H enc F)
theorem plain (f : FuncId) (fn : Func) (hf : Tryd.pinned.checked.prog.funcNamed "loop.example/g01926/laws.FnExactParseOp" = some f) (hfn : Tryd.pinned.checked.prog.funcs[f]? = some fn) :
    false = Tryd.pinned.checked.prog.looks [] ∧ ∀ (j : Nat) t, fn.params[j]? = some t → Tryd.pinned.checked.prog.wantsStandIn t = false := by
  obtain rfl : f = 4 := Option.some.inj ((show Tryd.prog.funcNamed "loop.example/g01926/laws.FnExactParseOp" = some 4 by kernel_rfl).symm.trans hf) |>.symm
  obtain rfl : fn = Tryd.f4 := (Option.some.inj (Tryd.func4.symm.trans hfn)).symm
  refine ⟨by kernel_rfl, fun j t ht => ?_⟩
  rw [Tryd.params4] at ht
  have hm := Array.mem_of_getElem? ht
  have hall : ∀ t ∈ (#[9] : Array TypeId), Tryd.prog.wantsStandIn t = false := by
    intro t ht
    simp only [List.mem_toArray, List.mem_cons, List.not_mem_nil, or_false] at ht
    subst ht; exact (show Tryd.prog.wantsStandIn 9 = false by kernel_rfl)
  exact hall t hm
theorem proved : Rows.FnExactParseOpCardSaid :=
  Claim7.holds_tied_plain_at .later [] _ _ _ _ said (fun _ h => by cases h) (by kernel_rfl) (fun _ h => by cases h) fnExactParseOp_row_tie rfl ⟨rfl, rfl⟩ (by kernel_rfl) rfl plain (by kernel_rfl)
end Go.Proofs.YtdkmcngpjiijkaaDoor.fnExactParseOp
