/-
  Chapter 4: a map from clients to sessions that the call makes: what it reads as; impl's tableOf.
-/
import Derived.Test.YtpdpejlcilnafaaGreatDoorS4Rows
import Derived.Test.YtpdpejlcilnafaaGreatDoorS4Plain
import Derived.Maps.RangeWalk
import Derived.Maps.OwnSet
import Derived.BigQuiet
import Derived.Sort.OwnSorted
namespace Go.Proofs.YtpdpejlcilnafaaGreatDoor.kit
open Go.ChangeShapes Go.WideShapes Go.ChangeAt Go.RowKit Go.Maps
set_option linter.unusedVariables false

def sessD (x : Sess) : DataW Unit := .agg [.lit (.int .i64 x.1), .lit (.int .i64 x.2.1), .lit (.bool x.2.2.1), .lit (.int .i64 x.2.2.2)]
/-- how a session reads as a map's element -/
def sessElem (v : Value) : Option (DataW Unit × List MemPlace) := match v with
  | .agg ⟨[.int .i64 c, .int .i64 s, .bool d, .int .i64 v]⟩ => some (sessD (c, s, d, v), [])
  | _ => none
theorem sessElem_mk (x : Sess) : sessElem (sessV x) = some (sessD x, []) := rfl
theorem sessElem_inv {v : Value} {z : DataW Unit × List MemPlace} (h : sessElem v = some z) : ∃ x : Sess, v = sessV x ∧ z = (sessD x, []) := by
  unfold sessElem at h
  split at h
  · rename_i c s d v
    cases h
    exact ⟨(c, s, d, v), rfl, rfl⟩
  · cases h
def tab (l : List Sess) : DataW Unit := l.foldl (fun D x => D.put (.int .i64 x.1) (sessD x)) (.map [])
theorem tab_snoc (l : List Sess) (x : Sess) : tab (l ++ [x]) = (tab l).put (.int .i64 x.1) (sessD x) := by simp [tab, List.foldl_append]
theorem keyInt : Keyed Tryz.prog 3 := int_keyed Tryz.underlying3
def wfC (l : List Sess) : Prop := ∀ j, j < l.length → (Lit.int .i64 (sg l j).1).wf = true
set_option maxRecDepth 100000 in
set_option maxHeartbeats 4000000 in
theorem tableOf (b : Nat) (v : Value) (L : List Sess) (w : World) (hl : L.length ≤ 4194304) (o : OwnS b w v L) (hw : wfC L) :
    Calls Tryz.prog 102 #[v] w fun e w' => ∃ B, e = .returned (.map (some B)) ∧ w'.ownsMap Tryz.prog 3 sessElem B L.length (tab L) ∧ w.heap.size ≤ B ∧ Below w.heap.size w w' := by
  obtain ⟨a, c, rfl, _, _, ha, _⟩ := o.form
  have HA := Lib.hid ha
  have HWF := Lib.hid hw
  clear ha o hw
  have hmm : ∀ W : World, (Instr.makeMap 152 (some (.int .i64 3))).run Tryz.prog W = .ok (.map (some W.heap.size)) (W.alloc (.map #[] 0)) := fun W => by simp [Instr.makeMap, go_sem]
  have HM := Lib.hid (World.ownsMap_made w Tryz.prog 3 sessElem)
  go_enter Tryz.func102, Tryz.ntmps102
  go_wp2_with fail
  clear hmm
  go_loopw [9] (fun i wr => ∃ k : Nat, k ≤ L.length ∧ i = .int .i64 k ∧ Hid (wr.ownsMap Tryz.prog 3 sessElem w.heap.size k (tab (L.take k))) ∧ Hid (Below w.heap.size w wr)) (fun i _ => L.length - (intOf i).toNat)
  case atStart => exact ⟨0, Nat.zero_le _, rfl, Lib.hid (by have := HM.out; simpa [tab] using this), Lib.hid ((Below.refl _ _).alloc (Nat.le_refl _) _)⟩
  case round =>
    clear HM
    obtain ⟨k, hk, rfl, HO, HB⟩ := hrel
    by_cases hlt : k < L.length
    · obtain ⟨g, o, rfl, hx, hc⟩ := HA.out k hlt
      obtain ⟨c0, c1, c2, c3⟩ := hc.below HB.out hx
      have hwf := HWF.out k hlt
      have hsn : tab (L.take (k + 1)) = (tab (L.take k)).put (.int .i64 (sg L k).1) (sessD (sg L k)) := by
        rw [← tab_snoc]; congr 1; rw [List.take_succ_eq_append_getElem hlt, sg_eq hlt]
      obtain ⟨c', s', d', v', hsg⟩ : ∃ c s d v, sg L k = (c, s, d, v) := ⟨_, _, _, _, rfl⟩
      rw [hsg] at c0 c1 c2 c3 hwf hsn
      simp only at c0 c1 c2 c3 hwf hsn
      have hs := HB.out.size
      have HSN := Lib.hid hsn
      have HKY := Lib.hid (keyOf_int_mk Tryz.underlying3 hwf)
      have HO2 := Lib.hid (HO.out.alloc (.cells #[.int .i64 c', .int .i64 s', .bool d', .int .i64 v'] 120))
      have HB2 := Lib.hid (HB.out.alloc hs (.cells #[.int .i64 c', .int .i64 s', .bool d', .int .i64 v'] 120))
      clear hc hx hsg hsn hwf
      go_wp2_with (at_mapUpdate; refine wpList_mapUpdate_own _ rfl _ _ _ 152 rfl 3 120 keyInt Tryz.underlying152 sessElem w.heap.size k _ rfl HO2.out (by unfold maxLen; omega) _ _ _ rfl rfl HKY.out (sessD (c', s', d', v')) [] (sessElem_mk (c', s', d', v')) ?_; intro w1 hown1 hgrow1)
      go_roundw
      case rel => exact ⟨k + 1, by omega, by go_num, Lib.hid (by rw [HSN.out]; exact hown1), Lib.hid (HB2.out.grown hgrow1 HB2.out.size (fun j hj => by cases hj; exact Nat.le_refl _))⟩
      case measure => simp [intOf]; omega
    · obtain rfl : k = L.length := by omega
      go_wp2_with fail
      go_ret
      exact ⟨_, rfl, by have := HO.out; rw [List.take_length] at this; exact this, Nat.le_refl _, HB.out⟩
/-- the datum D reads, at the client of x, as x -/
def Reads (D : DataW Unit) (x : Sess) : Prop := has D (.int .i64 x.1) = true ∧ ∀ zd, D.atKey (.int .i64 x.1) zd = sessD x
/-- what a loop over the map has met -/
structure Met4 (D : DataW Unit) (left : Lit → Bool) (ss : List Sess) : Prop where
  nd : (ss.map (·.1)).Nodup
  ok : ∀ x ∈ ss, Reads D x
  off : ∀ x ∈ ss, left (.int .i64 x.1) = false
  all : ∀ kl, has D kl = true → left kl = true ∨ ∃ x ∈ ss, kl = .int .i64 x.1
  le : ∀ kl, left kl = true → has D kl = true
theorem Met4.start (D : DataW Unit) : Met4 D (has D) [] := ⟨List.nodup_nil, by simp, by simp, fun kl h => .inl h, fun kl h => h⟩
theorem same_int (a b : Int) : (Lit.int .i64 a).sameKey (.int .i64 b) = (a == b) := by
  by_cases h : a = b
  · subst h; simp [Lit.sameKey]
  · rw [Maps.sameKey_ne (by simpa using h)]; simp [h]
theorem Met4.step {D : DataW Unit} {left : Lit → Bool} {ss : List Sess} {x : Sess} (h : Met4 D left ss) (hl : left (.int .i64 x.1) = true) (ha : ∀ zd, D.atKey (.int .i64 x.1) zd = sessD x) :
    Met4 D (fun z => left z && !z.sameKey (.int .i64 x.1)) (ss ++ [x]) := by
  have hnot : ∀ y ∈ ss, y.1 ≠ x.1 := fun y hy e => by have := h.off y hy; rw [e, hl] at this; cases this
  refine ⟨?_, ?_, ?_, ?_, ?_⟩
  · rw [List.map_append, List.nodup_append]
    refine ⟨h.nd, by simp, ?_⟩
    intro a ha' b hb
    obtain ⟨y, hy, rfl⟩ := List.mem_map.1 ha'
    simp only [List.map_cons, List.map_nil, List.mem_cons, List.not_mem_nil, or_false] at hb
    subst hb
    exact hnot y hy
  · intro y hy
    rcases List.mem_append.1 hy with hy | hy
    · exact h.ok y hy
    · simp only [List.mem_cons, List.not_mem_nil, or_false] at hy
      subst hy
      exact ⟨h.le _ hl, ha⟩
  · intro y hy
    rcases List.mem_append.1 hy with hy | hy
    · simp only [h.off y hy, Bool.false_and]
    · simp only [List.mem_cons, List.not_mem_nil, or_false] at hy
      subst hy
      simp only [same_int, beq_self_eq_true, Bool.not_true, Bool.and_false]
  · intro kl hk
    rcases h.all kl hk with h1 | ⟨y, hy, rfl⟩
    · by_cases he : kl = .int .i64 x.1
      · exact .inr ⟨x, by simp, he⟩
      · refine .inl ?_
        simp only [h1, Maps.sameKey_ne he, Bool.not_false, Bool.and_self]
    · exact .inr ⟨y, by simp [hy], rfl⟩
  · intro kl hk
    simp only [Bool.and_eq_true] at hk
    exact h.le kl hk.1
/-- all met: each session that the datum reads is there -/
theorem Met4.done {D : DataW Unit} {left : Lit → Bool} {ss : List Sess} (h : Met4 D left ss) (h0 : ∀ kl, left kl = false) (x : Sess) : x ∈ ss ↔ Reads D x := by
  refine ⟨h.ok x, fun hr => ?_⟩
  rcases h.all _ hr.1 with h1 | ⟨y, hy, he⟩
  · rw [h0] at h1; cases h1
  · have hxy : x.1 = y.1 := by simpa using he
    have h2 := (h.ok y hy).2 (.nil)
    rw [← hxy, hr.2] at h2
    have : x = y := by
      obtain ⟨a, b, c, d⟩ := x
      obtain ⟨a', b', c', d'⟩ := y
      simp [sessD] at h2
      obtain ⟨r1, r2, r3, r4⟩ := h2
      subst r1 r2 r3 r4
      rfl
    rw [this]; exact hy
theorem invKey (key : Value) (kl : Lit) (h : keyOf Tryz.prog 3 key = some kl) : ∃ x : Int, key = .int .i64 x := by
  obtain ⟨x, hx, _⟩ := Maps.keyOf_int_inv Tryz.underlying3 h
  exact ⟨x, hx⟩
theorem invElem (v : Value) (y : DataW Unit × List MemPlace) (h : sessElem v = some y) : ∃ x : Sess, v = sessV x := by
  obtain ⟨x, hx, _⟩ := sessElem_inv h
  exact ⟨x, hx⟩
/-- a range's step at sessions -/
theorem next_sess (w : World) {ops : Array Oper} {rest : List Oper} {o : Oper} {a : Act} {Q : Exit → Act → World → Prop} (hg : o.guard = none) (it : Operand) (hop : o.op = Op.next it false)
    (B r n : Nat) (D : DataW Unit) (left : Lit → Bool) (cnt : Nat) (hit : a.eval it = .pointer (some ⟨r, 0, none⟩)) (h : w.ranges Tryz.prog 3 sessElem B r n D left cnt)
    (hDone : cnt = 0 → (∀ kl, left kl = false) → wpList Tryz.prog ops Q rest (a.put o.dst (.tuple #[.bool false])) w)
    (hMore : ∀ (k c s : Int) (d : Bool) (v : Int) (w' : World) (cnt' : Nat), left (.int .i64 k) = true → (∀ zd, D.atKey (.int .i64 k) zd = sessD (c, s, d, v)) → w'.ranges Tryz.prog 3 sessElem B r n D (fun z => left z && !z.sameKey (.int .i64 k)) cnt' → cnt' < cnt →
      w.grownBy w' (some r) → (Instr.entry (.pointer (some ⟨r, 0, none⟩))).run Tryz.prog w' = .ok (.tuple #[.int .i64 k, .agg #[.int .i64 c, .int .i64 s, .bool d, .int .i64 v]]) w' →
      wpList Tryz.prog ops Q rest (a.put o.dst (.tuple #[.bool true, .int .i64 k, .agg #[.int .i64 c, .int .i64 s, .bool d, .int .i64 v]])) w') :
    wpList Tryz.prog ops Q (o :: rest) a w := by
  refine wpList_next_ranges w hg it hop 3 keyInt sessElem (Value.int .i64) sessV invKey invElem B r n D left cnt hit h hDone ?_
  intro x c kl y w' cnt' hkey hlk hv hat hrg hlt hgr hsz hen
  obtain ⟨x', ex, rfl, hwx⟩ := Maps.keyOf_int_inv Tryz.underlying3 hkey
  cases ex
  obtain ⟨q, e1, rfl⟩ := sessElem_inv hv
  have hq : q = c := by
    obtain ⟨c1, c2, c3, c4⟩ := c
    obtain ⟨q1, q2, q3, q4⟩ := q
    simp [sessV] at e1
    obtain ⟨r1, r2, r3, r4⟩ := e1
    subst r1 r2 r3 r4
    rfl
  subst hq
  obtain ⟨c1, c2, c3, c4⟩ := q
  exact hMore x c1 c2 c3 c4 w' cnt' hlk hat hrg hlt hgr hen
/-- what the walk asks of slices.SortFunc at sessions, with impl's own comparison -/
def SortsS : Prop := ∀ (b : Nat) (v : Value) (ss : List Sess) (W : World), ss.length ≤ 1000 → v ≠ .slice none 0 0 → OwnS b W v ss → b ≤ W.heap.size →
  Calls Tryz.prog 126 #[v, .func (.func 127) #[] #[]] W fun e w' => e = .returned (.tuple #[]) ∧ ∃ ss', ss'.Perm ss ∧ ss'.Pairwise (fun x y => x.1 ≤ y.1) ∧ OwnS b w' v ss' ∧ Below b W w'
set_option maxRecDepth 100000 in
set_option maxHeartbeats 8000000 in
theorem sorted_walk (hsort : SortsS) (B n : Nat) (D : DataW Unit) (w : World) (hn : n ≤ 1000) (hBw : B < w.heap.size) (hD : w.ownsMap Tryz.prog 3 sessElem B n D) (hkv : ∀ (k : Int) zd (x : Sess), has D (.int .i64 k) = true → D.atKey (.int .i64 k) zd = sessD x → x.1 = k) :
    Calls Tryz.prog 104 #[.map (some B)] w fun e w' => ∃ v ss, e = .returned v ∧ OwnS w.heap.size w' v ss ∧ (ss.map (·.1)).Nodup ∧ ss.Pairwise (fun x y => x.1 ≤ y.1) ∧ (∀ x, x ∈ ss ↔ Reads D x) ∧ Below w.heap.size w w' := by
  have HSORT := Lib.hid hsort
  clear hsort
  have HKV := Lib.hid hkv
  clear hkv
  have hlen := hD.size_le
  have HBW := Lib.hid hBw
  clear hBw
  obtain ⟨i0, hi, hz0, hz1, hz2⟩ := info_parts infoSess
  have hmk : ∀ W : World, (Instr.makeSlice 28 (.int .i64 0) (.int .i64 (Maps.size D : Int))).run Tryz.prog W = .ok (.slice (some ⟨W.heap.size, 0, none⟩) 0 (Maps.size D)) (W.alloc (.cells (madeCells #[.int .i64 0, .int .i64 0, .bool false, .int .i64 0] (Maps.size D * 4)) 120)) := fun W => by
    have h := run_makeSlice (P := Tryz.prog) W 28 120 i0 _ Tryz.underlying28 hi hz0 .i64 .i64 0 (Maps.size D : Int) (by omega) (by omega) (by rw [hz1]; simp; omega) (by rw [hz2]; omega) (by omega)
    rw [hz1] at h
    simpa [Value.cells] using h
  have hlm : ∀ ty, (Builtin.len_ #[152] ty #[.map (some B)]).run Tryz.prog w = .ok (.int .i64 (Maps.size D)) w := fun ty => hD.len Tryz.underlying152 ty
  generalize hsz : Maps.size D = m at hmk hlm hlen
  have HSZ := Lib.hid hsz
  clear hsz
  have HO := Lib.hid (show OwnS w.heap.size (w.alloc (.cells (madeCells #[.int .i64 0, .int .i64 0, .bool false, .int .i64 0] (m * 4)) 120)) (.slice (some ⟨w.heap.size, 0, none⟩) 0 m) [] from World.ownsRow_made w _ m (Nat.le_refl _) (by unfold maxLen; omega) (size_madeCells _ _))
  have HD := Lib.hid (hD.alloc (.cells (madeCells #[.int .i64 0, .int .i64 0, .bool false, .int .i64 0] (m * 4)) 120))
  clear hi hz0 hz1 hz2 hD
  go_enter Tryz.func104, Tryz.ntmps104
  go_wp2_with (first | (at_range; refine wpList_range_own _ rfl _ 152 rfl 3 120 keyInt Tryz.underlying152 sessElem B n D rfl HD.out ?_; intro wr0 hrg0 hg0 hs0) | go_in)
  clear hmk hlm
  generalize hr : (w.alloc (.cells (madeCells #[.int .i64 0, .int .i64 0, .bool false, .int .i64 0] (m * 4)) 120)).heap.size = r at hrg0 hs0 ⊢
  rw [World.size_alloc] at hr
  have HR := Lib.hid hr
  rw [HSZ.out] at hrg0
  have HW0 := Lib.hid (show Below w.heap.size w wr0 from ((Below.refl w.heap.size w).alloc (Nat.le_refl _) _).grown hg0 (by simp) (fun k hk => by cases hk))
  have HO0 := Lib.hid (show OwnS w.heap.size wr0 (.slice (some ⟨w.heap.size, 0, none⟩) 0 m) [] from HO.out.row.kept hg0 (.inr (by simp [Value.ownBlock])))
  clear hg0 hs0 HO HD hr
  go_frame
  go_loopw [3] (fun t wr => ∃ left cnt ss, wr.ranges Tryz.prog 3 sessElem B r n D left cnt ∧ Hid (OwnS w.heap.size wr t ss) ∧ Hid (t ≠ .slice none 0 0) ∧ Hid (Met4 D left ss) ∧ ss.length + cnt ≤ m ∧ Hid (Below w.heap.size w wr)) (fun _ wr => wr.rangeLeft B r)
  case atStart => exact ⟨_, _, [], hrg0, HO0, Lib.hid (by intro e; cases e), Lib.hid (Met4.start D), by simp, HW0⟩
  case round =>
    clear HO0 HW0 hrg0
    obtain ⟨left, cnt, ss, hrg, HO, HNN, HM, hcnt, HB⟩ := hrel
    have HRG := Lib.hid hrg
    clear hrg
    have hiter : some r ≠ u3.ownBlock := row_ne_iter HO.out.row HRG.out
    have hlow : some B ≠ u3.ownBlock := row_ne_low HO.out.row HBW.out
    have HIT := Lib.hid hiter
    have HLO := Lib.hid hlow
    clear hiter hlow
    go_wp2_with (first
      | (at_next; refine next_sess _ rfl _ rfl B r n _ _ _ rfl HRG.out (fun hc0 hl0 => ?_) (fun k c s d v w1 cnt1 hlk hat hrg1 hlt hg1 hen =>
          (fun (ho1 : OwnS w.heap.size w1 u3 ss) (hb1 : Below w.heap.size w w1) => (fun (ho2 : OwnS w.heap.size ((w1.alloc (.cells #[.int .i64 c, .int .i64 s, .bool d, .int .i64 v] 120)).alloc (.cells #[.int .i64 c, .int .i64 s, .bool d, .int .i64 v] 120)) u3 ss) (hsl : SrcS (w1.heap.size + 2) ((w1.alloc (.cells #[.int .i64 c, .int .i64 s, .bool d, .int .i64 v] 120)).alloc (.cells #[.int .i64 c, .int .i64 s, .bool d, .int .i64 v] 120)) (.slice (some ⟨w1.heap.size + 1, 0, none⟩) 1 1) [(c, s, d, v)]) => ?_)
            (OwnS.later ho1 (by go_grown)) (by have h := SrcS.lit (w1.alloc (.cells #[.int .i64 c, .int .i64 s, .bool d, .int .i64 v] 120)) (c, s, d, v); simpa using h))
            (HO.out.row.kept hg1 (.inr (Ne.symm HIT.out))) (HB.out.grown hg1 HB.out.size (fun j hj => by cases hj; have := HR.out; omega))))
      | (at_builtin; refine wpList_appS rfl _ _ rfl w.heap.size _ ss rfl ho2 (w1.heap.size + 2) _ [(c, s, d, v)] rfl hsl (by simp; omega) (by have := hb1.size; simp; omega) ?_; intro v' w2 hown' hb2 hg2)
      | (go_at_call 126; refine (HSORT.out w.heap.size u3 ss wr (by omega) HNN.out HO.out HB.out.size).mono ?_; rintro e w3 ⟨rfl, ss', hpm, hso, ho3, hb3⟩)
      | go_in)
    · go_ret
      exact ⟨_, ss', rfl, ho3, (hpm.map (·.1)).nodup_iff.2 HM.out.nd, hso, fun x => hpm.mem_iff.trans (HM.out.done hl0 x), HB.out.trans hb3⟩
    · have hk := HKV.out k .nil (c, s, d, v) (HM.out.le _ hlk) (hat .nil)
      simp only at hk
      subst hk
      have hrg2 := ((hrg1.alloc (.cells #[.int .i64 c, .int .i64 s, .bool d, .int .i64 v] 120)).alloc (.cells #[.int .i64 c, .int .i64 s, .bool d, .int .i64 v] 120)).kept hg2 HLO.out HIT.out
      have hm2 := HM.out.step (x := (c, s, d, v)) hlk hat
      have hbb : Below w.heap.size w w2 := ((hb1.alloc hb1.size _).alloc (by have := hb1.size; simp; omega) _).trans hb2
      go_roundw
      case rel => exact ⟨_, cnt1, ss ++ [(c, s, d, v)], hrg2, Lib.hid hown', Lib.hid (by obtain ⟨g9, c9, e9, _⟩ := hown'.there (by simp); rw [e9]; intro e; cases e), Lib.hid hm2, by simp; omega, Lib.hid hbb⟩
      case measure => rw [hrg2.left_eq, HRG.out.left_eq]; exact hlt
end Go.Proofs.YtpdpejlcilnafaaGreatDoor.kit
