/-
  Chapter 5: what spec's and impl's AppendEntry return.
-/
import Derived.Test.YtbnepdecfnhgoaaS5Log
import Derived.Test.YtbnepdecfnhgoaaEnts4
import Derived.Deep.RegionLaw
import Derived.Deep.RegionHeld3
import Derived.Laws.CopyOwn
namespace Go.Proofs.Ytbnepdecfnhgoaa.kit
open Go.ChangeShapes Go.WideShapes Go.ChangeAt Go.RowKit
set_option linter.unusedVariables false

set_option maxRecDepth 100000 in
theorem l5Copy (b : Nat) (v : Value) (L : List Ent) (w : World) (hl : L.length ≤ 2097152) (o : OwnE b w v L) :
    Calls Try.prog 72 #[v] w fun e w' => ∃ u, e = .returned u ∧ OwnE w.heap.size w' u L ∧ Below w.heap.size w w' := by
  obtain ⟨y, q, rfl⟩ := o.shape
  have HS := Lib.hid (SrcE.own o)
  have HE := Lib.hid (show OwnE w.heap.size (w.alloc (.cells #[] 56)) (.slice (some ⟨w.heap.size, 0, none⟩) 0 0) [] from ownE_new w w.heap.size (Nat.le_refl _))
  have ht := Try.underlying44
  have HT := Lib.hid ht
  clear o ht
  go_enter Try.func72, Try.ntmps72
  go_wp2_with (at_builtin; refine wpList_appE HT.out rfl (.tmp 3) (.tmp 4) rfl w.heap.size _ [] rfl HE.out w.heap.size _ L rfl (HS.out.below ((Below.refl w.heap.size w).alloc (Nat.le_refl _) _) (Nat.le_refl _)) (by simp; omega) (by simp) ?_; intro v1 w1 ho1 hb1 hg1)
  go_ret
  exact ⟨v1, rfl, by simpa using ho1, ((Below.refl _ _).alloc (Nat.le_refl _) _).trans hb1⟩
set_option maxRecDepth 100000 in
theorem beforeE (a : Option Addr) (n c k : Nat) (w : World) (hk : k ≤ n) (hn : n ≤ c) (hc : c ≤ maxLen) :
    Calls Try.prog 65 #[.slice a n c, .int .i64 (k : Int)] w fun e w' => e = .returned (sliced a 0 k k 7) ∧ w = w' := by
  unfold maxLen at hc
  have R1 : ∀ W, (Instr.slice 98 (.slice a n c) none (some (.int .i64 (k : Int))) (some (.int .i64 (k : Int)))).run Try.prog W = .ok (sliced a 0 k k 7) W := fun W => by
    rw [run_slice_hm (P := Try.prog) W 98 a n c (by kernel_rfl) .i64 .i64 (k : Int) (k : Int) (by omega) (by omega) (by omega)]
    have hs : (sizeOf (Try.prog.elem 98)).run Try.prog W = .ok 7 W := by kernel_rfl
    rw [hs]
    rfl
  generalize sliced a 0 k k 7 = sv at *
  go_enter Try.func65, Try.ntmps65
  go_wp2_with fail
  go_ret
  exact ⟨rfl, rfl⟩
theorem before_at {w : World} {a : Option Addr} {c : Nat} {L : List Ent} (h : AtE w a L) (k : Nat) (hk : k ≤ L.length) (h0 : a = none → c = 0 ∧ L = []) : ∃ a', sliced a 0 k k 7 = .slice a' k k ∧ AtE w a' (L.take k) ∧ (a' = none → L.take k = []) := by
  cases a with
  | none =>
    obtain ⟨_, rfl⟩ := h0 rfl
    have : k = 0 := by simpa using hk
    subst this
    exact ⟨none, rfl, AtE.nil _ _, fun _ => rfl⟩
  | some p =>
    by_cases hk0 : k = 0
    · subst hk0
      exact ⟨some p, by simp [sliced], by simpa using AtE.nil w (some p), fun h => by cases h⟩
    · refine ⟨some p, ?_, h.take k, fun h => by cases h⟩
      unfold sliced
      rw [if_neg hk0, Option.map_some, Nat.zero_mul, add_zero', Nat.sub_zero]
section
variable {P : Program}
/-- copy into a row, elements of whatever size -/
theorem run_copy_rowN (w : World) (dT sT ty elem : TypeId) (g o dLen dCap : Nat) (a : Addr) (sLen sCap sz : Nat) (cur : Array Value) (t : TypeId) (cs : List Value)
    (hu : P.underlying dT = some (.slice elem)) (hs : (P.info? elem).map (·.size) = some sz)
    (hg : w.heap[g]? = some (.cells cur t (0, 0))) (hn : cs.length = Nat.min sLen dLen * sz)
    (hsrc : ∀ j v, cs[j]? = some v → w.cell? (a.add j) = some v) (hfit : o + cs.length ≤ cur.size) (h1 : ∀ v ∈ cs, v.oneCell' = true) :
    (Builtin.copy_ #[dT, sT] ty #[.slice (some ⟨g, o, none⟩) dLen dCap, .slice (some a) sLen sCap]).run P w =
      .ok (goInt (Nat.min sLen dLen)) (w.setRow g (cur.toList.take o ++ cs ++ cur.toList.drop (o + cs.length)).toArray) := by
  have hl := run_loadCells_list (P := P) w a cs hsrc
  have hst := run_storeCells_at P g o t cs 0 cur w hg (by simpa using hfit) h1
  cases hq : P.info? elem with
  | none => simp [hq] at hs
  | some i =>
    have hi : i.size = sz := by simpa [hq] using hs
    simp [Builtin.copy_, run_underlying hu, Builtin.lenOf, Builtin.firstCells, sizeOf, typeInfo, hq, hi, ← hn, hl, hst]
end
theorem wpList_copyE {dT sT : TypeId} (hu : Try.prog.underlying dT = some (.slice 56)) {w : World} {ops : Array Oper} {rest : List Oper} {o : Oper} {a : Act} {Q : Exit → Act → World → Prop} (hgd : o.guard = none) (d s : Operand)
    (ho : o.op = .call { callee := .builtin .copy, args := #[d, s], argTypes := #[dT, sT] }) (g : Nat) (L : List Ent) (B : Nat) (sv : Value) (hd : a.eval d = .slice (some ⟨g, 0, none⟩) L.length L.length) (hs : a.eval s = sv) (hsrc : SrcE B w sv L)
    (cur : Array Value) (hg : w.heap[g]? = some (.cells cur 56 (0, 0))) (hc : cur.size = L.length * 7) (hm : L.length ≤ maxLen) (base : Nat) (hb : base ≤ g)
    (h : ∀ w', OwnE base w' (.slice (some ⟨g, 0, none⟩) L.length L.length) L → Below base w w' → wpList Try.prog ops Q rest (a.put o.dst (goInt L.length)) w') : wpList Try.prog ops Q (o :: rest) a w := by
  refine wpList_plain hgd fun K hK => ?_
  have hsz : (Try.prog.info? 56).map (·.size) = some 7 := by kernel_rfl
  rcases hsrc with ⟨rfl, rfl⟩ | ⟨g', of, c, rfl, _, hc'⟩
  · have hrun := run_copy_nil (P := Try.prog) w dT sT o.type 56 ⟨g, 0, none⟩ 0 0 hu (by rw [hsz]; rfl)
    unfold Oper.wp
    simp [execOp, ho, resolve, invoke, builtin, hd, hs, hrun, Result.andThen]
    refine hK _ _ (h w ⟨rfl, .inr ⟨g, 0, cur, rfl, hb, hg, Nat.le_refl _, Nat.zero_le _, by simpa using hc, by simp [cellsE]⟩⟩ (Below.refl _ _))
  · have hmin : Nat.min L.length L.length = L.length := Nat.min_self _
    have hrun := run_copy_rowN (P := Try.prog) w dT sT o.type 56 g 0 L.length L.length ⟨g', of, none⟩ L.length c 7 cur 56 (cellsE L) hu hsz hg (by rw [hmin, cellsE_len]) (fun j u hu' => SrcE.cell hc' j u hu') (by rw [cellsE_len, hc]; omega) (cellsE_one L)
    rw [hmin] at hrun
    unfold Oper.wp
    simp only [execOp, ho, resolve, invoke, builtin, Sem.run_bind, Sem.run_pure, Result.andThen_ok, List.map_toArray, List.map_cons, List.map_nil, hd, hs, hrun]
    have hlen : (List.take 0 cur.toList ++ cellsE L ++ List.drop (0 + (cellsE L).length) cur.toList) = cellsE L := by
      rw [List.drop_of_length_le (by rw [cellsE_len]; simp [hc])]; simp
    have hrow : (w.setRow g (List.take 0 cur.toList ++ cellsE L ++ List.drop (0 + (cellsE L).length) cur.toList).toArray).heap[g]? = some (.cells (cellsE L).toArray 56 (0, 0)) := by
      rw [hlen]; exact setRow_heap w g _ _ _ _ hg
    refine hK _ _ (h _ ⟨by rw [cellsE_len], .inr ⟨g, L.length, (cellsE L).toArray, rfl, hb, hrow, Nat.le_refl _, hm, by simp [cellsE_len], List.take_of_length_le (by rw [cellsE_len]; exact Nat.le_refl _)⟩⟩ ?_)
    exact ⟨rfl, rfl, rfl, by simp [World.setRow], fun k hk => setRow_other w g k _ (by omega)⟩
theorem keep7 {a0 a1 a2 a3 a4 a5 a6 : Addr} {x0 x1 x2 x3 x4 x5 x6 : Value} {W W' : World} (h : W.cell? a0 = some x0 ∧ W.cell? a1 = some x1 ∧ W.cell? a2 = some x2 ∧ W.cell? a3 = some x3 ∧ W.cell? a4 = some x4 ∧ W.cell? a5 = some x5 ∧ W.cell? a6 = some x6) (hb : Below W.heap.size W W') : W'.cell? a0 = some x0 ∧ W'.cell? a1 = some x1 ∧ W'.cell? a2 = some x2 ∧ W'.cell? a3 = some x3 ∧ W'.cell? a4 = some x4 ∧ W'.cell? a5 = some x5 ∧ W'.cell? a6 = some x6 := by
  obtain ⟨h0, h1, h2, h3, h4, h5, h6⟩ := h
  exact ⟨(hb.cell (World.block_lt_of_cell? W _ h0)).trans h0, (hb.cell (World.block_lt_of_cell? W _ h1)).trans h1, (hb.cell (World.block_lt_of_cell? W _ h2)).trans h2, (hb.cell (World.block_lt_of_cell? W _ h3)).trans h3, (hb.cell (World.block_lt_of_cell? W _ h4)).trans h4, (hb.cell (World.block_lt_of_cell? W _ h5)).trans h5, (hb.cell (World.block_lt_of_cell? W _ h6)).trans h6⟩
set_option maxRecDepth 100000 in
theorem copiedE (b : Nat) (v : Value) (L : List Ent) (w : World) (hl : L.length ≤ 2097152) (o : OwnE b w v L) :
    Calls Try.prog 71 #[v] w fun e w' => ∃ u, e = .returned u ∧ OwnE w.heap.size w' u L ∧ Below w.heap.size w w' := by
  obtain ⟨y, q, rfl⟩ := o.shape
  obtain ⟨i0, hi, hz0, hz1, hz2⟩ := info_parts infoE
  have hmk : ∀ W : World, (Instr.makeSlice 98 (.int .i64 (L.length : Int)) (.int .i64 (L.length : Int))).run Try.prog W = .ok (.slice (some ⟨W.heap.size, 0, none⟩) L.length L.length) (W.alloc (.cells (madeCells #[.int .i64 0, .int .i64 0, .int .i64 0, .int .i64 0, .int .i64 0, .int .i64 0, .int .i64 0] (L.length * 7)) 56)) := fun W => by
    have h := run_makeSlice (P := Try.prog) W 98 56 i0 _ Try.underlying98 hi hz0 .i64 .i64 (L.length : Int) (L.length : Int) (by omega) (by omega) (by rw [hz1]; simp; omega) (by rw [hz2]; omega) (by omega)
    rw [hz1] at h
    simpa [Value.cells] using h
  have HS := Lib.hid (SrcE.own o)
  have HT := Lib.hid Try.underlying98
  have HB := Lib.hid ((Below.refl w.heap.size w).alloc (Nat.le_refl _) (.cells (madeCells #[.int .i64 0, .int .i64 0, .int .i64 0, .int .i64 0, .int .i64 0, .int .i64 0, .int .i64 0] (L.length * 7)) 56))
  have HG := Lib.hid (heap_alloc_new w (.cells (madeCells #[.int .i64 0, .int .i64 0, .int .i64 0, .int .i64 0, .int .i64 0, .int .i64 0, .int .i64 0] (L.length * 7)) 56))
  have HM := Lib.hid (show L.length ≤ maxLen by unfold maxLen; omega)
  clear o hi hz0 hz1 hz2
  go_enter Try.func71, Try.ntmps71
  go_wp2_with (refine wpList_copyE HT.out rfl (.tmp 7) (.tmp 8) rfl w.heap.size L w.heap.size _ rfl rfl (HS.out.below HB.out (Nat.le_refl _)) _ HG.out (size_madeCells _ _) HM.out w.heap.size (Nat.le_refl _) ?_; intro w1 ho1 hb1)
  go_ret
  exact ⟨_, rfl, ho1, HB.out.trans hb1⟩
set_option maxRecDepth 100000 in
theorem withE (b : Nat) (v : Value) (L : List Ent) (xe xc xs xk xo xd xv : Int) (w : World) (hl : L.length ≤ 2097152) (o : OwnE b w v L) :
    Calls Try.prog 70 #[v, .agg #[.int .i64 xe, .int .i64 xc, .int .i64 xs, .int .i64 xk, .int .i64 xo, .int .i64 xd, .int .i64 xv]] w
      fun e w' => ∃ u, e = .returned u ∧ OwnE w.heap.size w' u (L ++ [⟨xe, xc, xs, xk, xo, xd, xv⟩]) ∧ Below w.heap.size w w' := by
  obtain ⟨a, q, rfl, hlq, hqm, hat, hbl⟩ := o.form
  obtain ⟨a', ha1, ha2, ha3⟩ := before_at hat L.length (Nat.le_refl _) (fun h => by
    subst h
    rcases o.2 with ⟨h1, h2⟩ | ⟨g, c, cur, h1, _⟩
    · injection h1 with _ _ h3; exact ⟨h3, List.eq_nil_of_length_eq_zero h2⟩
    · cases h1)
  rw [List.take_length] at ha2 ha3
  have J := fun W => beforeE a L.length q L.length W (Nat.le_refl _) hlq hqm
  rw [ha1] at J
  have JH := fun W => Lib.hid (J W)
  have HA := Lib.hid ha2
  have HN := Lib.hid ha3
  have HT := Lib.hid Try.underlying98
  clear ha1 ha2 ha3 J o hat hbl hqm
  go_enter Try.func70, Try.ntmps70
  go_wp2_with fail
  have HL := Lib.hid (show SrcE (w.heap.size + 1 + 1) ((w.alloc (.cells #[.int .i64 xe, .int .i64 xc, .int .i64 xs, .int .i64 xk, .int .i64 xo, .int .i64 xd, .int .i64 xv] 56)).alloc (.cells #[.int .i64 xe, .int .i64 xc, .int .i64 xs, .int .i64 xk, .int .i64 xo, .int .i64 xd, .int .i64 xv] 56)).drew (.slice (some ⟨w.heap.size + 1, 0, none⟩) 1 1) [⟨xe, xc, xs, xk, xo, xd, xv⟩] by
    have h := SrcE.lit (w.alloc (.cells #[.int .i64 xe, .int .i64 xc, .int .i64 xs, .int .i64 xk, .int .i64 xo, .int .i64 xd, .int .i64 xv] 56)) xe xc xs xk xo xd xv
    simp only [World.size_alloc] at h
    exact h.below (Below.refl _ _).drew (Nat.le_refl _))
  have HB := Lib.hid (show Below w.heap.size w ((w.alloc (.cells #[.int .i64 xe, .int .i64 xc, .int .i64 xs, .int .i64 xk, .int .i64 xo, .int .i64 xd, .int .i64 xv] 56)).alloc (.cells #[.int .i64 xe, .int .i64 xc, .int .i64 xs, .int .i64 xk, .int .i64 xo, .int .i64 xd, .int .i64 xv] 56)).drew from (((Below.refl w.heap.size w).alloc (Nat.le_refl _) _).alloc (by simp) _).drew)
  go_region_held3 (fun w' => w'.cell? ⟨w.heap.size, 0, none⟩ = some (.int .i64 xe) ∧ w'.cell? ⟨w.heap.size, 1, none⟩ = some (.int .i64 xc) ∧ w'.cell? ⟨w.heap.size, 2, none⟩ = some (.int .i64 xs) ∧ w'.cell? ⟨w.heap.size, 3, none⟩ = some (.int .i64 xk) ∧ w'.cell? ⟨w.heap.size, 4, none⟩ = some (.int .i64 xo) ∧ w'.cell? ⟨w.heap.size, 5, none⟩ = some (.int .i64 xd) ∧ w'.cell? ⟨w.heap.size, 6, none⟩ = some (.int .i64 xv))
    (first | (with_reducible assumption) | (with_reducible exact keep7 (by with_reducible assumption) hb1) | go_keep)
    (first
    | (go_at_call 65; refine (JH _).out.mono ?_; rintro e w1 ⟨rfl, rfl⟩)
    | (refine step_growE HT.out rfl (.tmp 8) (.tmp 10) rfl a' L ?_ (HA.out.later HB.out) HN.out _ (.slice (some ⟨w.heap.size + 1, 0, none⟩) 1 1) ⟨xe, xc, xs, xk, xo, xd, xv⟩ ?_ HL.out (by omega) ?_; simp [Act.eval]; simp [Act.eval]; intro v1 w1 ho1 hb1))
  all_goals
    have hz := HB.out.size
    go_wp2_with fail
    go_ret
    exact ⟨v1, rfl, ho1.mono hz, HB.out.trans (hb1.mono hz)⟩
theorem keep7n {B N : Nat} {x0 x1 x2 x3 x4 x5 x6 : Value} {W W' : World} (h : W.cell? ⟨B, 0, none⟩ = some x0 ∧ W.cell? ⟨B, 1, none⟩ = some x1 ∧ W.cell? ⟨B, 2, none⟩ = some x2 ∧ W.cell? ⟨B, 3, none⟩ = some x3 ∧ W.cell? ⟨B, 4, none⟩ = some x4 ∧ W.cell? ⟨B, 5, none⟩ = some x5 ∧ W.cell? ⟨B, 6, none⟩ = some x6) (hb : Below N W W') (hn : B < N) : W'.cell? ⟨B, 0, none⟩ = some x0 ∧ W'.cell? ⟨B, 1, none⟩ = some x1 ∧ W'.cell? ⟨B, 2, none⟩ = some x2 ∧ W'.cell? ⟨B, 3, none⟩ = some x3 ∧ W'.cell? ⟨B, 4, none⟩ = some x4 ∧ W'.cell? ⟨B, 5, none⟩ = some x5 ∧ W'.cell? ⟨B, 6, none⟩ = some x6 := by
  obtain ⟨h0, h1, h2, h3, h4, h5, h6⟩ := h
  exact ⟨(hb.cell (p := ⟨B, 0, none⟩) hn).trans h0, (hb.cell (p := ⟨B, 1, none⟩) hn).trans h1, (hb.cell (p := ⟨B, 2, none⟩) hn).trans h2, (hb.cell (p := ⟨B, 3, none⟩) hn).trans h3, (hb.cell (p := ⟨B, 4, none⟩) hn).trans h4, (hb.cell (p := ⟨B, 5, none⟩) hn).trans h5, (hb.cell (p := ⟨B, 6, none⟩) hn).trans h6⟩
set_option maxRecDepth 100000 in
theorem implAppendEntry (b : Nat) (v : Value) (L : List Ent) (xe xc xs xk xo xd xv : Int) (w : World) (hl : L.length ≤ 1048576) (o : OwnE b w v L) :
    Calls Try.prog 29 #[v, .agg #[.int .i64 xe, .int .i64 xc, .int .i64 xs, .int .i64 xk, .int .i64 xo, .int .i64 xd, .int .i64 xv]] w fun e w' => ∃ u, e = .returned (.tuple #[u, .bool (appEok L ⟨xe, xc, xs, xk, xo, xd, xv⟩)]) ∧ OwnE w.heap.size w' u (appE L ⟨xe, xc, xs, xk, xo, xd, xv⟩) ∧ Below w.heap.size w w' := by
  unfold appE
  cases hk : appEok L ⟨xe, xc, xs, xk, xo, xd, xv⟩ with
  | true =>
    rw [if_pos rfl]
    have HK := Lib.hid (show decide (LOk (L ++ [⟨xe, xc, xs, xk, xo, xd, xv⟩])) = true from hk)
    clear hk
    obtain ⟨y, q, rfl⟩ := o.shape
    have HO := Lib.hid o
    have HB := Lib.hid ((Below.refl w.heap.size w).alloc (Nat.le_refl _) (.cells #[.int .i64 xe, .int .i64 xc, .int .i64 xs, .int .i64 xk, .int .i64 xo, .int .i64 xd, .int .i64 xv] 56))
    have JW := Lib.hid (withE b _ L xe xc xs xk xo xd xv (w.alloc (.cells #[.int .i64 xe, .int .i64 xc, .int .i64 xs, .int .i64 xk, .int .i64 xo, .int .i64 xd, .int .i64 xv] 56)) (by omega) (HO.out.later HB.out))
    obtain ⟨LX, hLX⟩ : ∃ l, l = L ++ [(⟨xe, xc, xs, xk, xo, xd, xv⟩ : Ent)] := ⟨_, rfl⟩
    have hlen : LX.length ≤ 2097152 := by rw [hLX, List.length_append]; simp; omega
    rw [← hLX] at HK
    try rw [← hLX]
    have HLX := Lib.hid hLX
    clear hLX
    have HLN := Lib.hid hlen
    clear o hlen
    go_enter Try.func29, Try.ntmps29
    go_wp2_with fail
    refine JW.out.mono ?_
    rintro e w1 ⟨u1, rfl, ho1, hb1⟩
    rw [← HLX.out] at ho1
    obtain ⟨y1, q1, rfl⟩ := ho1.shape
    have JL := implIsLog _ _ _ w1 HLN.out ho1
    rw [HK.out] at JL
    have HO1 := Lib.hid ho1
    have HB1 := Lib.hid (HB.out.trans (hb1.mono HB.out.size))
    have HZ1 := Lib.hid HB.out.size
    clear ho1 hb1
    go_wp2_with fail
    refine JL.mono ?_
    rintro e w2 ⟨rfl, hb2⟩
    have HO2 := Lib.hid (HO1.out.later hb2)
    have HB2 := Lib.hid (HB1.out.trans (hb2.mono HB1.out.size))
    clear hb2 JL HO1
    go_wp2_with fail
    go_ret2
    exact ⟨_, rfl, HO2.out.mono HZ1.out, HB2.out⟩
  | false =>
    rw [if_neg (by simp)]
    have HK := Lib.hid (show decide (LOk (L ++ [⟨xe, xc, xs, xk, xo, xd, xv⟩])) = false from hk)
    clear hk
    obtain ⟨y, q, rfl⟩ := o.shape
    have HO := Lib.hid o
    have HB := Lib.hid ((Below.refl w.heap.size w).alloc (Nat.le_refl _) (.cells #[.int .i64 xe, .int .i64 xc, .int .i64 xs, .int .i64 xk, .int .i64 xo, .int .i64 xd, .int .i64 xv] 56))
    have JW := Lib.hid (withE b _ L xe xc xs xk xo xd xv (w.alloc (.cells #[.int .i64 xe, .int .i64 xc, .int .i64 xs, .int .i64 xk, .int .i64 xo, .int .i64 xd, .int .i64 xv] 56)) (by omega) (HO.out.later HB.out))
    obtain ⟨LX, hLX⟩ : ∃ l, l = L ++ [(⟨xe, xc, xs, xk, xo, xd, xv⟩ : Ent)] := ⟨_, rfl⟩
    have hlen : LX.length ≤ 2097152 := by rw [hLX, List.length_append]; simp; omega
    rw [← hLX] at HK
    try rw [← hLX]
    have HLX := Lib.hid hLX
    clear hLX
    have HLN := Lib.hid hlen
    clear o hlen
    go_enter Try.func29, Try.ntmps29
    go_wp2_with fail
    refine JW.out.mono ?_
    rintro e w1 ⟨u1, rfl, ho1, hb1⟩
    rw [← HLX.out] at ho1
    obtain ⟨y1, q1, rfl⟩ := ho1.shape
    have JL := implIsLog _ _ _ w1 HLN.out ho1
    rw [HK.out] at JL
    have HO1 := Lib.hid ho1
    have HB1 := Lib.hid (HB.out.trans (hb1.mono HB.out.size))
    have HZ1 := Lib.hid HB.out.size
    clear ho1 hb1
    go_wp2_with fail
    refine JL.mono ?_
    rintro e w2 ⟨rfl, hb2⟩
    have HO2 := Lib.hid (HO1.out.later hb2)
    have HB2 := Lib.hid (HB1.out.trans (hb2.mono HB1.out.size))
    clear hb2 JL HO1
    go_wp2_with fail
    refine (copiedE b _ L w2 (by omega) (HO.out.later HB2.out)).mono ?_
    rintro e w3 ⟨u3, rfl, ho3, hb3⟩
    have HO3 := Lib.hid (ho3.mono HB2.out.size)
    have HB3 := Lib.hid (HB2.out.trans (hb3.mono HB2.out.size))
    clear ho3 hb3
    go_wp2_with fail
    go_ret2
    exact ⟨_, rfl, HO3.out, HB3.out⟩
set_option maxRecDepth 100000 in
set_option maxHeartbeats 4000000 in
theorem specAppendEntry (b : Nat) (v : Value) (L : List Ent) (xe xc xs xk xo xd xv : Int) (w : World) (hl : L.length ≤ 1048576) (o : OwnE b w v L) :
    Calls Try.prog 30 #[v, .agg #[.int .i64 xe, .int .i64 xc, .int .i64 xs, .int .i64 xk, .int .i64 xo, .int .i64 xd, .int .i64 xv]] w fun e w' => ∃ u, e = .returned (.tuple #[u, .bool (appEok L ⟨xe, xc, xs, xk, xo, xd, xv⟩)]) ∧ OwnE w.heap.size w' u (appE L ⟨xe, xc, xs, xk, xo, xd, xv⟩) ∧ Below w.heap.size w w' := by
  unfold appE
  cases hk : appEok L ⟨xe, xc, xs, xk, xo, xd, xv⟩ with
  | true =>
    rw [if_pos rfl]
    have hLX : LOk (L ++ [⟨xe, xc, xs, xk, xo, xd, xv⟩]) := of_decide_eq_true hk
    have HK := Lib.hid (show decide (LOk (L ++ [⟨xe, xc, xs, xk, xo, xd, xv⟩])) = true from hk)
    have HK1 := Lib.hid (show decide (LOk L) = true from decide_eq_true (LOk_init hLX))
    clear hk hLX
    obtain ⟨y, q, rfl⟩ := o.shape
    have HO := Lib.hid o
    have HB := Lib.hid (((Below.refl w.heap.size w).alloc (Nat.le_refl _) (.cells #[.int .i64 xe, .int .i64 xc, .int .i64 xs, .int .i64 xk, .int .i64 xo, .int .i64 xd, .int .i64 xv] 56)).drew)
    have HBB := Lib.hid (show Below w.heap.size w ((w.alloc (.cells #[.int .i64 xe, .int .i64 xc, .int .i64 xs, .int .i64 xk, .int .i64 xo, .int .i64 xd, .int .i64 xv] 56)).alloc (.cells #[.int .i64 xe, .int .i64 xc, .int .i64 xs, .int .i64 xk, .int .i64 xo, .int .i64 xd, .int .i64 xv] 56)).drew from (((Below.refl w.heap.size w).alloc (Nat.le_refl _) _).alloc (by simp) _).drew)
    have HL := Lib.hid (show SrcE (w.heap.size + 1 + 1) ((w.alloc (.cells #[.int .i64 xe, .int .i64 xc, .int .i64 xs, .int .i64 xk, .int .i64 xo, .int .i64 xd, .int .i64 xv] 56)).alloc (.cells #[.int .i64 xe, .int .i64 xc, .int .i64 xs, .int .i64 xk, .int .i64 xo, .int .i64 xd, .int .i64 xv] 56)).drew (.slice (some ⟨w.heap.size + 1, 0, none⟩) 1 1) [⟨xe, xc, xs, xk, xo, xd, xv⟩] by
      have h := SrcE.lit (w.alloc (.cells #[.int .i64 xe, .int .i64 xc, .int .i64 xs, .int .i64 xk, .int .i64 xo, .int .i64 xd, .int .i64 xv] 56)) xe xc xs xk xo xd xv
      simp only [World.size_alloc] at h
      exact h.below (Below.refl _ _).drew (Nat.le_refl _))
    have HT := Lib.hid Try.underlying44
    have JA := Lib.hid (l5Copy b _ L (w.alloc (.cells #[.int .i64 xe, .int .i64 xc, .int .i64 xs, .int .i64 xk, .int .i64 xo, .int .i64 xd, .int .i64 xv] 56)).drew (by omega) (HO.out.later HB.out))
    have JB := Lib.hid (l5Copy b _ L ((w.alloc (.cells #[.int .i64 xe, .int .i64 xc, .int .i64 xs, .int .i64 xk, .int .i64 xo, .int .i64 xd, .int .i64 xv] 56)).alloc (.cells #[.int .i64 xe, .int .i64 xc, .int .i64 xs, .int .i64 xk, .int .i64 xo, .int .i64 xd, .int .i64 xv] 56)).drew (by omega) (HO.out.later HBB.out))
    obtain ⟨LX, hLX⟩ : ∃ l, l = L ++ [(⟨xe, xc, xs, xk, xo, xd, xv⟩ : Ent)] := ⟨_, rfl⟩
    have hlen : LX.length ≤ 2097152 := by rw [hLX, List.length_append]; simp; omega
    rw [← hLX] at HK
    try rw [← hLX]
    have HLX := Lib.hid hLX
    clear hLX
    have HLN := Lib.hid hlen
    have HN7 := Lib.hid (show w.heap.size < w.heap.size + 1 by omega)
    clear o hlen
    go_enter Try.func30, Try.ntmps30
    go_wp2_with fail
    go_cut [6] (fun u wx => ∃ y1 q1, u = .slice y1 LX.length q1 ∧ OwnE w.heap.size wx (.slice y1 LX.length q1) LX ∧ Below w.heap.size w wx)
    case first =>
      go_region_held3 (fun w' => w'.cell? ⟨w.heap.size, 0, none⟩ = some (.int .i64 xe) ∧ w'.cell? ⟨w.heap.size, 1, none⟩ = some (.int .i64 xc) ∧ w'.cell? ⟨w.heap.size, 2, none⟩ = some (.int .i64 xs) ∧ w'.cell? ⟨w.heap.size, 3, none⟩ = some (.int .i64 xk) ∧ w'.cell? ⟨w.heap.size, 4, none⟩ = some (.int .i64 xo) ∧ w'.cell? ⟨w.heap.size, 5, none⟩ = some (.int .i64 xd) ∧ w'.cell? ⟨w.heap.size, 6, none⟩ = some (.int .i64 xv))
        (first | (with_reducible assumption) | (with_reducible exact keep7n (by with_reducible assumption) hb2 HN7.out) | (with_reducible exact keep7 (by with_reducible assumption) hb1) | go_keep)
        (first
        | (go_at_call 72; (with_reducible refine JA.out.mono ?_); rintro e w1 ⟨u1, rfl, ho1, hb1⟩; have HB1 := Lib.hid (HB.out.trans (hb1.mono HB.out.size)); have HO1 := Lib.hid (show OwnE (w.heap.size + 1) w1 u1 L from ho1.mono (by simp)); have hz1 : w.heap.size + 1 ≤ w1.heap.size := Nat.le_trans (by simp) hb1.size; clear ho1)
        | (go_at_call 72; (with_reducible refine JB.out.mono ?_); rintro e w1 ⟨u1, rfl, ho1, hb1⟩; have HB1 := Lib.hid (HBB.out.trans (hb1.mono HBB.out.size)); have HO1 := Lib.hid (show OwnE (w.heap.size + 1) w1 u1 L from ho1.mono (by simp <;> omega)); have hz1 : w.heap.size + 1 ≤ w1.heap.size := Nat.le_trans (by simp <;> omega) hb1.size; have HLw := Lib.hid (HL.out.below hb1 (by simp)); clear ho1)
        | (refine step_appE HT.out rfl (.tmp 8) (.tmp 10) rfl (w.heap.size + 1) u1 L ?_ ?_ (w1.heap.size + 1) (.slice (some ⟨w1.heap.size, 0, none⟩) 1 1) [⟨xe, xc, xs, xk, xo, xd, xv⟩] ?_ ?_ (by simp; omega) ?_ ?_; simp [Act.eval]; exact (HO1.out.later ((Below.refl _ _).alloc (Nat.le_refl _) _)); simp [Act.eval]; with_reducible exact SrcE.lit w1 xe xc xs xk xo xd xv; (simp; omega); intro v2 w2 ho2 hb2 hg2; have HB2 := Lib.hid (HB1.out.trans (((Below.refl w1.heap.size w1).alloc (Nat.le_refl _) (.cells #[.int .i64 xe, .int .i64 xc, .int .i64 xs, .int .i64 xk, .int .i64 xo, .int .i64 xd, .int .i64 xv] 56)).mono (by omega) |>.trans (hb2.mono (by omega)))))
        | (refine step_appE HT.out rfl (.tmp 8) (.tmp 10) rfl (w.heap.size + 1) u1 L ?_ ?_ (w.heap.size + 1 + 1) (.slice (some ⟨w.heap.size + 1, 0, none⟩) 1 1) [⟨xe, xc, xs, xk, xo, xd, xv⟩] ?_ ?_ (by simp; omega) ?_ ?_; simp [Act.eval]; with_reducible exact HO1.out; simp [Act.eval]; with_reducible exact HLw.out; with_reducible exact hz1; intro v2 w2 ho2 hb2 hg2; have HB2 := Lib.hid (HB1.out.trans (hb2.mono (by omega)))))
      all_goals
        rw [← HLX.out] at ho2
        obtain ⟨y2, q2, rfl⟩ := ho2.shape
        go_wp2_with fail
        go_meet
        exact ⟨_, _, rfl, ho2.mono (by omega), HB2.out⟩
    case rest =>
    obtain ⟨y1, q1, rfl, ho1, hbx⟩ := hcut
    obtain ⟨w1, rfl⟩ : ∃ W, W = wc := ⟨_, rfl⟩
    have HO1 := Lib.hid ho1
    have HB1 := Lib.hid hbx
    clear ho1 hbx
    have J1 := specIsLog b _ L w1 (by omega) (HO.out.later HB1.out)
    rw [HK1.out] at J1
    go_wp2_with fail
    refine J1.mono ?_
    rintro e w2 ⟨rfl, hb2⟩
    have HO2 := Lib.hid (HO1.out.later hb2)
    have HB2 := Lib.hid (HB1.out.trans (hb2.mono HB1.out.size))
    clear hb2 J1 HO1
    have J2 := specIsLog _ _ _ w2 HLN.out HO2.out
    rw [HK.out] at J2
    go_wp2_with fail
    refine J2.mono ?_
    rintro e w3 ⟨rfl, hb3⟩
    have HO3 := Lib.hid (HO2.out.later hb3)
    have HB3 := Lib.hid (HB2.out.trans (hb3.mono HB2.out.size))
    clear hb3 J2 HO2
    go_wp2_with fail
    go_ret2
    exact ⟨_, rfl, HO3.out, HB3.out⟩
  | false =>
    rw [if_neg (by simp)]
    have HK := Lib.hid (show decide (LOk (L ++ [⟨xe, xc, xs, xk, xo, xd, xv⟩])) = false from hk)
    clear hk
    by_cases hk1 : LOk L
    · have HK1 := Lib.hid (show decide (LOk L) = true from decide_eq_true hk1)
      clear hk1
      obtain ⟨y, q, rfl⟩ := o.shape
      have HO := Lib.hid o
      have HB := Lib.hid (((Below.refl w.heap.size w).alloc (Nat.le_refl _) (.cells #[.int .i64 xe, .int .i64 xc, .int .i64 xs, .int .i64 xk, .int .i64 xo, .int .i64 xd, .int .i64 xv] 56)).drew)
      have HBB := Lib.hid (show Below w.heap.size w ((w.alloc (.cells #[.int .i64 xe, .int .i64 xc, .int .i64 xs, .int .i64 xk, .int .i64 xo, .int .i64 xd, .int .i64 xv] 56)).alloc (.cells #[.int .i64 xe, .int .i64 xc, .int .i64 xs, .int .i64 xk, .int .i64 xo, .int .i64 xd, .int .i64 xv] 56)).drew from (((Below.refl w.heap.size w).alloc (Nat.le_refl _) _).alloc (by simp) _).drew)
      have HL := Lib.hid (show SrcE (w.heap.size + 1 + 1) ((w.alloc (.cells #[.int .i64 xe, .int .i64 xc, .int .i64 xs, .int .i64 xk, .int .i64 xo, .int .i64 xd, .int .i64 xv] 56)).alloc (.cells #[.int .i64 xe, .int .i64 xc, .int .i64 xs, .int .i64 xk, .int .i64 xo, .int .i64 xd, .int .i64 xv] 56)).drew (.slice (some ⟨w.heap.size + 1, 0, none⟩) 1 1) [⟨xe, xc, xs, xk, xo, xd, xv⟩] by
        have h := SrcE.lit (w.alloc (.cells #[.int .i64 xe, .int .i64 xc, .int .i64 xs, .int .i64 xk, .int .i64 xo, .int .i64 xd, .int .i64 xv] 56)) xe xc xs xk xo xd xv
        simp only [World.size_alloc] at h
        exact h.below (Below.refl _ _).drew (Nat.le_refl _))
      have HT := Lib.hid Try.underlying44
      have JA := Lib.hid (l5Copy b _ L (w.alloc (.cells #[.int .i64 xe, .int .i64 xc, .int .i64 xs, .int .i64 xk, .int .i64 xo, .int .i64 xd, .int .i64 xv] 56)).drew (by omega) (HO.out.later HB.out))
      have JB := Lib.hid (l5Copy b _ L ((w.alloc (.cells #[.int .i64 xe, .int .i64 xc, .int .i64 xs, .int .i64 xk, .int .i64 xo, .int .i64 xd, .int .i64 xv] 56)).alloc (.cells #[.int .i64 xe, .int .i64 xc, .int .i64 xs, .int .i64 xk, .int .i64 xo, .int .i64 xd, .int .i64 xv] 56)).drew (by omega) (HO.out.later HBB.out))
      obtain ⟨LX, hLX⟩ : ∃ l, l = L ++ [(⟨xe, xc, xs, xk, xo, xd, xv⟩ : Ent)] := ⟨_, rfl⟩
      have hlen : LX.length ≤ 2097152 := by rw [hLX, List.length_append]; simp; omega
      rw [← hLX] at HK
      try rw [← hLX]
      have HLX := Lib.hid hLX
      clear hLX
      have HLN := Lib.hid hlen
      have HN7 := Lib.hid (show w.heap.size < w.heap.size + 1 by omega)
      clear o hlen
      go_enter Try.func30, Try.ntmps30
      go_wp2_with fail
      go_cut [6] (fun u wx => ∃ y1 q1, u = .slice y1 LX.length q1 ∧ OwnE w.heap.size wx (.slice y1 LX.length q1) LX ∧ Below w.heap.size w wx)
      case first =>
        go_region_held3 (fun w' => w'.cell? ⟨w.heap.size, 0, none⟩ = some (.int .i64 xe) ∧ w'.cell? ⟨w.heap.size, 1, none⟩ = some (.int .i64 xc) ∧ w'.cell? ⟨w.heap.size, 2, none⟩ = some (.int .i64 xs) ∧ w'.cell? ⟨w.heap.size, 3, none⟩ = some (.int .i64 xk) ∧ w'.cell? ⟨w.heap.size, 4, none⟩ = some (.int .i64 xo) ∧ w'.cell? ⟨w.heap.size, 5, none⟩ = some (.int .i64 xd) ∧ w'.cell? ⟨w.heap.size, 6, none⟩ = some (.int .i64 xv))
          (first | (with_reducible assumption) | (with_reducible exact keep7n (by with_reducible assumption) hb2 HN7.out) | (with_reducible exact keep7 (by with_reducible assumption) hb1) | go_keep)
          (first
          | (go_at_call 72; (with_reducible refine JA.out.mono ?_); rintro e w1 ⟨u1, rfl, ho1, hb1⟩; have HB1 := Lib.hid (HB.out.trans (hb1.mono HB.out.size)); have HO1 := Lib.hid (show OwnE (w.heap.size + 1) w1 u1 L from ho1.mono (by simp)); have hz1 : w.heap.size + 1 ≤ w1.heap.size := Nat.le_trans (by simp) hb1.size; clear ho1)
          | (go_at_call 72; (with_reducible refine JB.out.mono ?_); rintro e w1 ⟨u1, rfl, ho1, hb1⟩; have HB1 := Lib.hid (HBB.out.trans (hb1.mono HBB.out.size)); have HO1 := Lib.hid (show OwnE (w.heap.size + 1) w1 u1 L from ho1.mono (by simp <;> omega)); have hz1 : w.heap.size + 1 ≤ w1.heap.size := Nat.le_trans (by simp <;> omega) hb1.size; have HLw := Lib.hid (HL.out.below hb1 (by simp)); clear ho1)
          | (refine step_appE HT.out rfl (.tmp 8) (.tmp 10) rfl (w.heap.size + 1) u1 L ?_ ?_ (w1.heap.size + 1) (.slice (some ⟨w1.heap.size, 0, none⟩) 1 1) [⟨xe, xc, xs, xk, xo, xd, xv⟩] ?_ ?_ (by simp; omega) ?_ ?_; simp [Act.eval]; exact (HO1.out.later ((Below.refl _ _).alloc (Nat.le_refl _) _)); simp [Act.eval]; with_reducible exact SrcE.lit w1 xe xc xs xk xo xd xv; (simp; omega); intro v2 w2 ho2 hb2 hg2; have HB2 := Lib.hid (HB1.out.trans (((Below.refl w1.heap.size w1).alloc (Nat.le_refl _) (.cells #[.int .i64 xe, .int .i64 xc, .int .i64 xs, .int .i64 xk, .int .i64 xo, .int .i64 xd, .int .i64 xv] 56)).mono (by omega) |>.trans (hb2.mono (by omega)))))
          | (refine step_appE HT.out rfl (.tmp 8) (.tmp 10) rfl (w.heap.size + 1) u1 L ?_ ?_ (w.heap.size + 1 + 1) (.slice (some ⟨w.heap.size + 1, 0, none⟩) 1 1) [⟨xe, xc, xs, xk, xo, xd, xv⟩] ?_ ?_ (by simp; omega) ?_ ?_; simp [Act.eval]; with_reducible exact HO1.out; simp [Act.eval]; with_reducible exact HLw.out; with_reducible exact hz1; intro v2 w2 ho2 hb2 hg2; have HB2 := Lib.hid (HB1.out.trans (hb2.mono (by omega)))))
        all_goals
          rw [← HLX.out] at ho2
          obtain ⟨y2, q2, rfl⟩ := ho2.shape
          go_wp2_with fail
          go_meet
          exact ⟨_, _, rfl, ho2.mono (by omega), HB2.out⟩
      case rest =>
      obtain ⟨y1, q1, rfl, ho1, hbx⟩ := hcut
      obtain ⟨w1, rfl⟩ : ∃ W, W = wc := ⟨_, rfl⟩
      have HO1 := Lib.hid ho1
      have HB1 := Lib.hid hbx
      clear ho1 hbx
      have J1 := specIsLog b _ L w1 (by omega) (HO.out.later HB1.out)
      rw [HK1.out] at J1
      go_wp2_with fail
      refine J1.mono ?_
      rintro e w2 ⟨rfl, hb2⟩
      have HO2 := Lib.hid (HO1.out.later hb2)
      have HB2 := Lib.hid (HB1.out.trans (hb2.mono HB1.out.size))
      clear hb2 J1 HO1
      have J2 := specIsLog _ _ _ w2 HLN.out HO2.out
      rw [HK.out] at J2
      go_wp2_with fail
      refine J2.mono ?_
      rintro e w3 ⟨rfl, hb3⟩
      have HB3 := Lib.hid (HB2.out.trans (hb3.mono HB2.out.size))
      clear hb3 J2 HO2
      go_wp2_with fail
      refine (l5Copy b _ L w3 (by omega) (HO.out.later HB3.out)).mono ?_
      rintro e w4 ⟨u4, rfl, ho4, hb4⟩
      have HO4 := Lib.hid (ho4.mono HB3.out.size)
      have HB4 := Lib.hid (HB3.out.trans (hb4.mono HB3.out.size))
      clear ho4 hb4
      go_wp2_with fail
      go_ret2
      exact ⟨_, rfl, HO4.out, HB4.out⟩
    · have HK1 := Lib.hid (show decide (LOk L) = false from decide_eq_false hk1)
      clear hk1
      obtain ⟨y, q, rfl⟩ := o.shape
      have HO := Lib.hid o
      have HB := Lib.hid (((Below.refl w.heap.size w).alloc (Nat.le_refl _) (.cells #[.int .i64 xe, .int .i64 xc, .int .i64 xs, .int .i64 xk, .int .i64 xo, .int .i64 xd, .int .i64 xv] 56)).drew)
      have HBB := Lib.hid (show Below w.heap.size w ((w.alloc (.cells #[.int .i64 xe, .int .i64 xc, .int .i64 xs, .int .i64 xk, .int .i64 xo, .int .i64 xd, .int .i64 xv] 56)).alloc (.cells #[.int .i64 xe, .int .i64 xc, .int .i64 xs, .int .i64 xk, .int .i64 xo, .int .i64 xd, .int .i64 xv] 56)).drew from (((Below.refl w.heap.size w).alloc (Nat.le_refl _) _).alloc (by simp) _).drew)
      have HL := Lib.hid (show SrcE (w.heap.size + 1 + 1) ((w.alloc (.cells #[.int .i64 xe, .int .i64 xc, .int .i64 xs, .int .i64 xk, .int .i64 xo, .int .i64 xd, .int .i64 xv] 56)).alloc (.cells #[.int .i64 xe, .int .i64 xc, .int .i64 xs, .int .i64 xk, .int .i64 xo, .int .i64 xd, .int .i64 xv] 56)).drew (.slice (some ⟨w.heap.size + 1, 0, none⟩) 1 1) [⟨xe, xc, xs, xk, xo, xd, xv⟩] by
        have h := SrcE.lit (w.alloc (.cells #[.int .i64 xe, .int .i64 xc, .int .i64 xs, .int .i64 xk, .int .i64 xo, .int .i64 xd, .int .i64 xv] 56)) xe xc xs xk xo xd xv
        simp only [World.size_alloc] at h
        exact h.below (Below.refl _ _).drew (Nat.le_refl _))
      have HT := Lib.hid Try.underlying44
      have JA := Lib.hid (l5Copy b _ L (w.alloc (.cells #[.int .i64 xe, .int .i64 xc, .int .i64 xs, .int .i64 xk, .int .i64 xo, .int .i64 xd, .int .i64 xv] 56)).drew (by omega) (HO.out.later HB.out))
      have JB := Lib.hid (l5Copy b _ L ((w.alloc (.cells #[.int .i64 xe, .int .i64 xc, .int .i64 xs, .int .i64 xk, .int .i64 xo, .int .i64 xd, .int .i64 xv] 56)).alloc (.cells #[.int .i64 xe, .int .i64 xc, .int .i64 xs, .int .i64 xk, .int .i64 xo, .int .i64 xd, .int .i64 xv] 56)).drew (by omega) (HO.out.later HBB.out))
      obtain ⟨LX, hLX⟩ : ∃ l, l = L ++ [(⟨xe, xc, xs, xk, xo, xd, xv⟩ : Ent)] := ⟨_, rfl⟩
      have hlen : LX.length ≤ 2097152 := by rw [hLX, List.length_append]; simp; omega
      rw [← hLX] at HK
      try rw [← hLX]
      have HLX := Lib.hid hLX
      clear hLX
      have HLN := Lib.hid hlen
      have HN7 := Lib.hid (show w.heap.size < w.heap.size + 1 by omega)
      clear o hlen
      go_enter Try.func30, Try.ntmps30
      go_wp2_with fail
      go_cut [6] (fun u wx => ∃ y1 q1, u = .slice y1 LX.length q1 ∧ OwnE w.heap.size wx (.slice y1 LX.length q1) LX ∧ Below w.heap.size w wx)
      case first =>
        go_region_held3 (fun w' => w'.cell? ⟨w.heap.size, 0, none⟩ = some (.int .i64 xe) ∧ w'.cell? ⟨w.heap.size, 1, none⟩ = some (.int .i64 xc) ∧ w'.cell? ⟨w.heap.size, 2, none⟩ = some (.int .i64 xs) ∧ w'.cell? ⟨w.heap.size, 3, none⟩ = some (.int .i64 xk) ∧ w'.cell? ⟨w.heap.size, 4, none⟩ = some (.int .i64 xo) ∧ w'.cell? ⟨w.heap.size, 5, none⟩ = some (.int .i64 xd) ∧ w'.cell? ⟨w.heap.size, 6, none⟩ = some (.int .i64 xv))
          (first | (with_reducible assumption) | (with_reducible exact keep7n (by with_reducible assumption) hb2 HN7.out) | (with_reducible exact keep7 (by with_reducible assumption) hb1) | go_keep)
          (first
          | (go_at_call 72; (with_reducible refine JA.out.mono ?_); rintro e w1 ⟨u1, rfl, ho1, hb1⟩; have HB1 := Lib.hid (HB.out.trans (hb1.mono HB.out.size)); have HO1 := Lib.hid (show OwnE (w.heap.size + 1) w1 u1 L from ho1.mono (by simp)); have hz1 : w.heap.size + 1 ≤ w1.heap.size := Nat.le_trans (by simp) hb1.size; clear ho1)
          | (go_at_call 72; (with_reducible refine JB.out.mono ?_); rintro e w1 ⟨u1, rfl, ho1, hb1⟩; have HB1 := Lib.hid (HBB.out.trans (hb1.mono HBB.out.size)); have HO1 := Lib.hid (show OwnE (w.heap.size + 1) w1 u1 L from ho1.mono (by simp <;> omega)); have hz1 : w.heap.size + 1 ≤ w1.heap.size := Nat.le_trans (by simp <;> omega) hb1.size; have HLw := Lib.hid (HL.out.below hb1 (by simp)); clear ho1)
          | (refine step_appE HT.out rfl (.tmp 8) (.tmp 10) rfl (w.heap.size + 1) u1 L ?_ ?_ (w1.heap.size + 1) (.slice (some ⟨w1.heap.size, 0, none⟩) 1 1) [⟨xe, xc, xs, xk, xo, xd, xv⟩] ?_ ?_ (by simp; omega) ?_ ?_; simp [Act.eval]; exact (HO1.out.later ((Below.refl _ _).alloc (Nat.le_refl _) _)); simp [Act.eval]; with_reducible exact SrcE.lit w1 xe xc xs xk xo xd xv; (simp; omega); intro v2 w2 ho2 hb2 hg2; have HB2 := Lib.hid (HB1.out.trans (((Below.refl w1.heap.size w1).alloc (Nat.le_refl _) (.cells #[.int .i64 xe, .int .i64 xc, .int .i64 xs, .int .i64 xk, .int .i64 xo, .int .i64 xd, .int .i64 xv] 56)).mono (by omega) |>.trans (hb2.mono (by omega)))))
          | (refine step_appE HT.out rfl (.tmp 8) (.tmp 10) rfl (w.heap.size + 1) u1 L ?_ ?_ (w.heap.size + 1 + 1) (.slice (some ⟨w.heap.size + 1, 0, none⟩) 1 1) [⟨xe, xc, xs, xk, xo, xd, xv⟩] ?_ ?_ (by simp; omega) ?_ ?_; simp [Act.eval]; with_reducible exact HO1.out; simp [Act.eval]; with_reducible exact HLw.out; with_reducible exact hz1; intro v2 w2 ho2 hb2 hg2; have HB2 := Lib.hid (HB1.out.trans (hb2.mono (by omega)))))
        all_goals
          rw [← HLX.out] at ho2
          obtain ⟨y2, q2, rfl⟩ := ho2.shape
          go_wp2_with fail
          go_meet
          exact ⟨_, _, rfl, ho2.mono (by omega), HB2.out⟩
      case rest =>
      obtain ⟨y1, q1, rfl, ho1, hbx⟩ := hcut
      obtain ⟨w1, rfl⟩ : ∃ W, W = wc := ⟨_, rfl⟩
      have HO1 := Lib.hid ho1
      have HB1 := Lib.hid hbx
      clear ho1 hbx
      have J1 := specIsLog b _ L w1 (by omega) (HO.out.later HB1.out)
      rw [HK1.out] at J1
      go_wp2_with fail
      refine J1.mono ?_
      rintro e w2 ⟨rfl, hb2⟩
      have HB2 := Lib.hid (HB1.out.trans (hb2.mono HB1.out.size))
      clear hb2 J1 HO1
      go_wp2_with fail
      refine (l5Copy b _ L w2 (by omega) (HO.out.later HB2.out)).mono ?_
      rintro e w4 ⟨u4, rfl, ho4, hb4⟩
      have HO4 := Lib.hid (ho4.mono HB2.out.size)
      have HB4 := Lib.hid (HB2.out.trans (hb4.mono HB2.out.size))
      clear ho4 hb4
      go_wp2_with fail
      go_ret2
      exact ⟨_, rfl, HO4.out, HB4.out⟩
end Go.Proofs.Ytbnepdecfnhgoaa.kit
