/-
  Chapter 2, the program's sets: the numbers of two lists with a wanted presence.
-/
import Derived.Test.YtmojigimlhjphaaC2Asc
import Derived.Test.YtmojigimlhjphaaC2Concat
import Derived.Test.YtmojigimlhjphaaC2Sets
import Derived.Laws.StructEq
namespace Go.Proofs.Ytmojigimlhjphaa.kit
open Go.ChangeShapes Go.WideShapes Go.ChangeAt Go.RowKit
set_option linter.unusedVariables false
set_option linter.unusedSimpArgs false

theorem eq_pres (a b x y : Bool) (w : World) : (Op.equalIn 10000 53 (.agg #[.bool a, .bool b]) (.agg #[.bool x, .bool y])).run Try.prog w = .ok (a == x && b == y) w := by
  have u3 := Try.underlying4
  have a3 := Try.isAgg4
  have z3 := Try.sizeOf4
  rw [show (10000 : Nat) = 9999 + 1 from rfl, Op.equalIn]
  simp only [Sem.run_bind, run_underlying Try.underlying53, Result.andThen_ok]
  simp only [Std.Legacy.Range.forIn_eq_forIn_range', Std.Legacy.Range.size, Nat.sub_zero, Nat.add_sub_cancel, Nat.div_one, List.range'_succ, List.range'_zero, List.forIn_cons, List.forIn_nil]
  go_simp
  cases a <;> cases b <;> cases x <;> cases y <;> simp
/-- the row of presences ps at block g -/
def PresAt (w : World) (g : Nat) (ps : List (Bool × Bool)) : Prop := ∀ j, j < ps.length → w.cell? ⟨g, j * 2, none⟩ = some (.bool (ps.getD j (false, false)).1) ∧ w.cell? ⟨g, j * 2 + 1, none⟩ = some (.bool (ps.getD j (false, false)).2)
set_option maxRecDepth 100000 in
theorem index_pres (g : Nat) (ps : List (Bool × Bool)) (x y : Bool) (w : World) (hn : ps.length ≤ 1000) (hg : g < w.heap.size) (hp : PresAt w g ps) :
    Calls Try.prog 81 #[.slice (some ⟨g, 0, none⟩) ps.length ps.length, .agg #[.bool x, .bool y]] w fun e w' => ∃ i : Int, e = .returned (.int .i64 i) ∧ decide (0 ≤ i) = ps.contains (x, y) ∧ Below w.heap.size w w' := by
  have HP := Lib.hid hp
  clear hp
  have hb1 : (w.alloc (.cells #[.bool x, .bool y] 53)).cell? ⟨w.heap.size, 0, none⟩ = some (.bool x) := by unfold World.cell?; rw [heap_alloc_new]; rfl
  have hb2 : (w.alloc (.cells #[.bool x, .bool y] 53)).cell? ⟨w.heap.size, 1, none⟩ = some (.bool y) := by unfold World.cell?; rw [heap_alloc_new]; rfl
  have HX := Lib.hid (⟨hb1, hb2⟩ : _ ∧ _)
  clear hb1 hb2
  go_enter Try.func81, Try.ntmps81
  go_wp2_with fail
  go_loopw [8] (fun i wr => ∃ k : Nat, k ≤ ps.length ∧ i = .int .i64 k ∧ Hid ((x, y) ∉ ps.take k) ∧ ∃ q, wr = (w.alloc (.cells #[.bool x, .bool y] 53)).drewN q) (fun i _ => ps.length - (intOf i).toNat)
  case atStart => exact ⟨0, Nat.zero_le _, rfl, Lib.hid (by simp), 0, rfl⟩
  case round =>
    obtain ⟨k, hk, rfl, HE, q, rfl⟩ := hrel
    by_cases hlt : k < ps.length
    · have hq : ((w.alloc (.cells #[.bool x, .bool y] 53)).drewN q).cell? ⟨w.heap.size, 0, none⟩ = some (.bool x) := HX.out.1
      have hq2 : ((w.alloc (.cells #[.bool x, .bool y] 53)).drewN q).cell? ⟨w.heap.size, 1, none⟩ = some (.bool y) := HX.out.2
      have hbw : Below w.heap.size w ((w.alloc (.cells #[.bool x, .bool y] 53)).drewN q) := below_drewN ((Below.refl _ _).alloc (Nat.le_refl _) _) q
      have hc1 : ((w.alloc (.cells #[.bool x, .bool y] 53)).drewN q).cell? ⟨g, k * 2, none⟩ = some (.bool (ps.getD k (false, false)).1) := (hbw.cell hg).trans (HP.out k hlt).1
      have hc2 : ((w.alloc (.cells #[.bool x, .bool y] 53)).drewN q).cell? ⟨g, k * 2 + 1, none⟩ = some (.bool (ps.getD k (false, false)).2) := (hbw.cell hg).trans (HP.out k hlt).2
      have HB := Lib.hid hbw
      have HG := Lib.hid (show ps.getD k (false, false) = ps[k] by simp [List.getD, hlt])
      by_cases he : ps.getD k (false, false) = (x, y)
      · have HF := Lib.hid (show ps.contains (x, y) = true by rw [List.contains_iff_mem, ← he, HG.out]; exact List.getElem_mem hlt)
        rw [he] at hc1 hc2
        generalize ps.getD k (false, false) = p at *
        clear HX HE hbw HG he
        generalize (w.alloc (.cells #[.bool x, .bool y] 53)).drewN q = W at *
        have HQ : ∀ w, (Op.equalIn 10000 53 (.agg #[.bool x, .bool y]) (.agg #[.bool x, .bool y])).run Try.prog w = .ok true w := fun w => by rw [eq_pres]; simp
        go_wp2_with fail
        go_region
        go_wp2_with fail
        go_ret
        exact ⟨k, rfl, by rw [HF.out]; simp, HB.out.drew⟩
      · have HE2 := Lib.hid (show (x, y) ∉ ps.take (k + 1) by
          rw [List.take_succ_eq_append_getElem hlt, List.mem_append]
          rintro (h | h)
          · exact HE.out h
          · rw [List.mem_singleton] at h; exact he (by rw [HG.out, h]))
        generalize ps.getD k (false, false) = p at *
        obtain ⟨p1, p2⟩ := p
        have HQ : ∀ w, (Op.equalIn 10000 53 (.agg #[.bool x, .bool y]) (.agg #[.bool p1, .bool p2])).run Try.prog w = .ok false w := fun w => by
          rw [eq_pres]
          congr 1
          rw [Bool.and_eq_false_iff, beq_eq_false_iff_ne, beq_eq_false_iff_ne]
          by_cases h : x = p1
          · exact .inr (fun h2 => he (by rw [h, h2]))
          · exact .inl h
        clear HX HE hbw HG he
        generalize hW : (w.alloc (.cells #[.bool x, .bool y] 53)).drewN q = W at *
        replace hW := Lib.hid hW
        go_wp2_with fail
        go_region
        go_wp2_with fail
        go_roundw
        case rel => exact ⟨k + 1, by omega, by go_num, HE2, q + 1, by rw [← hW.out]; rfl⟩
        case measure => simp [intOf]; omega
    · have HF := Lib.hid (show ps.contains (x, y) = false by
        have h := HE.out
        rw [List.take_of_length_le (by omega)] at h
        rw [← Bool.not_eq_true, List.contains_iff_mem]; exact h)
      have HB := Lib.hid (below_drewN ((Below.refl w.heap.size w).alloc (Nat.le_refl _) (.cells #[.bool x, .bool y] 53)) q)
      go_wp2_with fail
      go_ret
      exact ⟨-1, rfl, by rw [HF.out]; rfl, HB.out⟩
theorem PresAt.below {w w' : World} {g : Nat} {ps : List (Bool × Bool)} {B : Nat} (h : PresAt w g ps) (hb : Below B w w') (hg : g < B) : PresAt w' g ps := fun j hj => ⟨(hb.cell hg).trans (h j hj).1, (hb.cell hg).trans (h j hj).2⟩
set_option maxRecDepth 100000 in
theorem contains_pres (g : Nat) (ps : List (Bool × Bool)) (x y : Bool) (w : World) (hn : ps.length ≤ 1000) (hg : g < w.heap.size) (hp : PresAt w g ps) :
    Calls Try.prog 67 #[.slice (some ⟨g, 0, none⟩) ps.length ps.length, .agg #[.bool x, .bool y]] w fun e w' => e = .returned (.bool (ps.contains (x, y))) ∧ Below w.heap.size w w' := by
  have hb1 : (w.alloc (.cells #[.bool x, .bool y] 53)).cell? ⟨w.heap.size, 0, none⟩ = some (.bool x) := by unfold World.cell?; rw [heap_alloc_new]; rfl
  have hb2 : (w.alloc (.cells #[.bool x, .bool y] 53)).cell? ⟨w.heap.size, 1, none⟩ = some (.bool y) := by unfold World.cell?; rw [heap_alloc_new]; rfl
  have hbw : Below w.heap.size w (w.alloc (.cells #[.bool x, .bool y] 53)) := (Below.refl _ _).alloc (Nat.le_refl _) _
  have C1 := Lib.hid (index_pres g ps x y (w.alloc (.cells #[.bool x, .bool y] 53)) hn (by simp; omega) (hp.below hbw hg))
  clear hp
  have HB := Lib.hid hbw
  clear hbw
  go_enter Try.func67, Try.ntmps67
  go_wp2_with (go_at_call 81; refine (C1.out).mono ?_; rintro e w1 ⟨i, rfl, hi, hb⟩; replace hi := Lib.hid hi)
  go_ret
  exact ⟨by rw [← hi.out]; rfl, HB.out.trans (hb.mono (by simp))⟩
theorem SrcI.wider {B B' : Nat} {w : World} {sv : Value} {l : List Int} (h : SrcI B w sv l) (hB : B ≤ B') : SrcI B' w sv l := by
  rcases h with h | ⟨ad, c, h1, h2, h3⟩
  · exact .inl h
  · exact .inr ⟨ad, c, h1, by omega, h3⟩
theorem OwnI.src {base : Nat} {w : World} {v : Value} {l : List Int} (h : OwnI base w v l) : SrcI w.heap.size w v l := by
  rcases h.2 with ⟨rfl, h0⟩ | ⟨g, c, cur, rfl, hg, hh, hn, hm, _⟩
  · exact .inl ⟨rfl, List.eq_nil_of_length_eq_zero h0⟩
  · refine SrcI.row (Array.getElem?_eq_some_iff.1 hh).1 rfl (fun j hj => ?_)
    rw [h.row.cellAt j (by omega), List.getElem?_map, List.getElem?_eq_getElem hj]
    simp [List.getD, hj]
theorem search (b : Nat) (v : Value) (l : List Int) (x : Int) (w : World) (hl : l.length ≤ 4194304) (o : OwnI b w v l) (hs : l.Pairwise (· ≤ ·)) :
    Calls Try.prog 66 #[v, .int .i64 x] w fun e w' => ∃ i : Int, e = .returned (.tuple #[.int .i64 i, .bool (decide (x ∈ l))]) ∧ Drawn w w' := by
  by_cases h0 : 0 < l.length
  · obtain ⟨g, c, rfl, hc1, hc2, _, _⟩ := o.there h0
    refine (Try.slices_BinarySearch_int g 0 l.length c l x w (Nat.le_refl _) (by omega) o.cells (by rw [List.take_length]; exact hs)).mono ?_
    rintro e w1 ⟨rfl, q, rfl⟩
    rw [List.take_length]
    refine ⟨((l.countP (· < x) : Nat) : Int), ?_, q, rfl⟩
    rw [show decide (x ∈ l) = l.contains x by rw [Bool.eq_iff_iff]; simp]
  · obtain rfl : l = [] := List.eq_nil_of_length_eq_zero (by omega)
    obtain ⟨a, c, rfl, _⟩ := o.form
    refine (Try.slices_BinarySearch_int_empty a c x w).mono ?_
    rintro e w1 ⟨rfl, rfl⟩
    exact ⟨0, by simp, Drawn.refl _⟩
set_option maxRecDepth 100000 in
theorem implWith (b1 : Nat) (v1 : Value) (l1 : List Int) (b2 : Nat) (v2 : Value) (l2 : List Int) (g : Nat) (ps : List (Bool × Bool)) (w : World) (h1 : l1.length ≤ 1048576) (o1 : OwnI b1 w v1 l1) (h2 : l2.length ≤ 1048576) (o2 : OwnI b2 w v2 l2)
    (hn : ps.length ≤ 1000) (hg : g < w.heap.size) (hp : PresAt w g ps) :
    Calls Try.prog 47 #[v1, v2, .slice (some ⟨g, 0, none⟩) ps.length ps.length] w fun e w' => ∃ v, e = .returned v ∧ OwnI w.heap.size w' v (withP l1 l2 fun x y => ps.contains (x, y)) ∧ Below w.heap.size w w' := by
  have C1 := Lib.hid (implAsc b1 v1 l1 w (by omega) o1)
  have C2 := Lib.hid (fun (w1 : World) (hb : Below w.heap.size w w1) => implAsc b2 v2 l2 w1 (by omega) (o2.later hb))
  have HP := Lib.hid hp
  clear o1 o2 hp
  have HA1 := ascending_len l1
  have HA2 := ascending_len l2
  have HS1 := Lib.hid (ascending_le l1)
  have HS2 := Lib.hid (ascending_le l2)
  unfold withP
  generalize ascending l1 = A at *
  generalize ascending l2 = B at *
  have C3 := Lib.hid (fun (b : Nat) (v : Value) (w1 : World) (o : OwnI b w1 v (A ++ B)) => implAsc b v (A ++ B) w1 (by rw [List.length_append]; omega) o)
  have HC := ascending_len (A ++ B)
  rw [List.length_append] at HC
  generalize ascending (A ++ B) = D at *
  go_enter Try.func47, Try.ntmps47
  go_wp2_with fail
  refine (C1.out).mono ?_
  rintro e w1 ⟨u1, rfl, oA, hb1⟩
  have hz1 := hb1.size
  have C2 := Lib.hid (C2.out w1 hb1)
  have OA := Lib.hid oA
  have HB1 := Lib.hid hb1
  clear oA hb1
  go_wp2_with fail
  refine (C2.out).mono ?_
  rintro e w2 ⟨u2, rfl, oB, hb2⟩
  have hz2 := hb2.size
  have oA := OA.out.later (hb2.mono (Nat.le_refl _))
  obtain ⟨a1, c1, rfl, _, _, _, _⟩ := oA.form
  obtain ⟨a2, c2, rfl, _, _, _, _⟩ := oB.form
  have hb3 : Below w2.heap.size w2 (w2.alloc (.cells #[.slice a1 A.length c1, .slice a2 B.length c2] 24)) := (Below.refl _ _).alloc (Nat.le_refl _) _
  have C4 := Lib.hid (concat2 w2.heap.size a1 a2 c1 c2 A B (w2.alloc (.cells #[.slice a1 A.length c1, .slice a2 B.length c2] 24)) (by omega) (by omega)
    (by unfold World.cell?; rw [heap_alloc_new]; rfl) (by unfold World.cell?; rw [heap_alloc_new]; rfl) (by simp)
    ((oA.src.below hb3 (Nat.le_refl _)).wider (by simp)) ((oB.src.below hb3 (Nat.le_refl _)).wider (by simp)))
  have OA := Lib.hid oA
  have OB := Lib.hid oB
  have HB2 := Lib.hid (HB1.out.trans (hb2.mono hz1))
  clear oA oB hb2 C1 C2 hb3
  go_wp2_with fail
  refine (C4.out).mono ?_
  rintro e w4 ⟨u4, rfl, oC, hb4⟩
  have C5 := Lib.hid (C3.out _ u4 w4 oC)
  have HB4 := Lib.hid (((Below.refl w2.heap.size w2).alloc (Nat.le_refl _) _).trans (hb4.mono (by simp)))
  clear oC hb4 C3 C4
  go_wp2_with fail
  refine (C5.out).mono ?_
  rintro e w5 ⟨u5, rfl, oD, hb5⟩
  have HB5 := Lib.hid (HB4.out.trans (hb5.mono HB4.out.size))
  have OA5 := Lib.hid (OA.out.later HB5.out)
  have OB5 := Lib.hid (OB.out.later HB5.out)
  have HBW := Lib.hid (HB2.out.trans (HB5.out.mono HB2.out.size))
  obtain ⟨a5, c5, rfl, _, _, at5, _⟩ := oD.form
  have HD := Lib.hid at5
  have HP5 := Lib.hid (HP.out.below HBW.out hg)
  have hg5 : g < w5.heap.size := Nat.lt_of_lt_of_le hg HBW.out.size
  have hz5 := HBW.out.size
  clear oD at5 hb5 C5 HB4 HB5 OA OB HB1 HB2 HP
  go_wp2_with fail
  go_loopw [7, 24] (fun v i wr => ∃ k : Nat, k ≤ D.length ∧ i = .int .i64 k ∧ OwnI w5.heap.size wr v ((D.take k).filter fun x => ps.contains (decide (x ∈ A), decide (x ∈ B))) ∧ Below w5.heap.size w5 wr) (fun _ i _ => D.length - (intOf i).toNat)
  case atStart => exact ⟨0, Nat.zero_le _, rfl, World.ownsRow_nil _ _ _ _, Below.refl _ _⟩
  case round =>
    obtain ⟨k, hk, rfl, ho, hb⟩ := hrel
    by_cases hlt : k < D.length
    · obtain ⟨p, rfl, hp, hc⟩ := HD.out k hlt
      have hc' : wr.cell? (p.add k) = some (.int .i64 (D.getD k 0)) := (hb.cell (p := p.add k) (by unfold Addr.add; split <;> exact hp)).trans hc
      have HT := Lib.hid (mem_filter_take D k hlt (fun x => ps.contains (decide (x ∈ A), decide (x ∈ B))))
      have hlen : ((D.take k).filter fun x => ps.contains (decide (x ∈ A), decide (x ∈ B))).length ≤ 4194304 := by
        have h3 := List.length_filter_le (fun x => ps.contains (decide (x ∈ A), decide (x ∈ B))) (D.take k)
        rw [List.length_take] at h3; omega
      have C1 := Lib.hid (search _ _ A (D.getD k 0) wr (by omega) (OA5.out.later hb) HS1.out)
      have C2 := Lib.hid (fun (w' : World) (h : Drawn wr w') => search _ _ B (D.getD k 0) w' (by omega) (OB5.out.later (hb.trans (h.below _))) HS2.out)
      have C3 := Lib.hid (fun (w' : World) (h : Drawn wr w') (x y : Bool) => contains_pres g ps x y w' hn (Nat.lt_of_lt_of_le hg5 (hb.trans (h.below _)).size) (HP5.out.below (hb.trans (h.below _)) hg5))
      have HB := Lib.hid hb
      have HO := Lib.hid ho
      have hsz := hb.size
      clear hc ho hb HS1 HS2 HP5 OA5 OB5 HD
      generalize D.getD k 0 = z at *
      generalize decide (z ∈ A) = x at *
      generalize decide (z ∈ B) = y at *
      go_wp2_with fail
      refine (C1.out).mono ?_
      rintro e w6 ⟨i1, rfl, hd1⟩
      have C2 := Lib.hid (C2.out w6 hd1)
      have HD1 := Lib.hid hd1
      clear hd1 C1
      go_wp2_with fail
      refine (C2.out).mono ?_
      rintro e w7 ⟨i2, rfl, hd2⟩
      have HD2 := Lib.hid (HD1.out.trans hd2)
      have C3 := Lib.hid (C3.out w7 HD2.out x y)
      clear hd2 C2 HD1
      go_wp2_with fail
      refine (C3.out).mono ?_
      rintro e w8 ⟨rfl, hb8⟩
      have HB8 := Lib.hid ((HD2.out.below wr.heap.size).trans (hb8.mono (HD2.out.below wr.heap.size).size))
      have HO8 := Lib.hid (HO.out.later HB8.out)
      have HBB := Lib.hid (HB.out.trans (HB8.out.mono hsz))
      have hz8 := HBB.out.size
      have hown := HO8.out.row
      clear hb8 C3 HD2 HB HB8 HO
      cases hq : ps.contains (x, y)
      · rw [hq] at HT
        have HT := Lib.hid (HT.out.trans (if_neg (by simp)))
        go_wp2_with fail
        go_roundw
        case rel => exact ⟨k + 1, by omega, by go_num, by rw [HT.out]; exact HO8.out, HBB.out⟩
        case measure => simp [intOf]; omega
      · rw [hq] at HT
        have HT := Lib.hid (HT.out.trans (if_pos rfl))
        go_wp2_with (at_builtin; refine wpList_push1 rfl _ _ 24 rfl w5.heap.size 3 (.int .i64 0) 8 Try.underlying24 infoI rfl _ _ _ rfl hown _ 1 rfl (by rfl) (by omega) (by omega) hz8 ?_; intro v' w9 hown' hb9 hg9)
        go_roundw
        case rel => exact ⟨k + 1, by omega, by go_num, by rw [HT.out]; exact OwnI.snoc hown', HBB.out.trans hb9⟩
        case measure => simp [intOf]; omega
    · obtain rfl : k = D.length := by omega
      rw [List.take_length] at ho
      have HO := Lib.hid (ho.mono hz5)
      have HB := Lib.hid (HBW.out.trans (hb.mono hz5))
      clear hlt hk ho hb
      go_wp2_with fail
      go_ret
      exact ⟨_, rfl, HO.out, HB.out⟩
end Go.Proofs.Ytmojigimlhjphaa.kit
