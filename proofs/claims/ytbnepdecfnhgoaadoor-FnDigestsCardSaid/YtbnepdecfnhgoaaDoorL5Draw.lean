/-
  The draws of chapter 5: lists of at most nineteen entries; what turns below the heap's old size is the cursor alone.
-/
import Derived.Test.YtbnepdecfnhgoaaDoorL3Draw
import Derived.Test.YtbnepdecfnhgoaaDoorEnts4
namespace Go.Proofs.YtbnepdecfnhgoaaDoor.kit
open Go.ChangeShapes Go.WideShapes Go.ChangeAt Go.RowKit
set_option linter.unusedVariables false
set_option linter.unusedSimpArgs false

theorem OwnE.drew {g : Nat} {w w' : World} {base : Nat} {v : Value} {l : List Ent} (h : OwnE base w v l) (hd : Drew g w w') (hg : g < base) : OwnE base w' v l := own_drew h hd hg
def lenOf : Value → Nat
  | .slice _ n _ => n
  | _ => 0
set_option maxRecDepth 100000 in
set_option maxHeartbeats 8000000 in
theorem log_any (g : Nat) (w : World) (hc : Cur g w) :
    Calls Tryd.prog 75 #[.pointer (some ⟨g, 0, none⟩)] w fun e w' => ∃ (v : Value) (L : List Ent), e = .returned v ∧ L.length ≤ 6 ∧ OwnE w.heap.size w' v L ∧ Drew g w w' := by
  have hgs := hc.lt
  have hD0 := (Drew.refl hc).alloc (.cells #[] 62)
  have ho0 : OwnE w.heap.size (w.alloc (.cells #[] 62)) (.slice (some ⟨w.heap.size, 0, none⟩) 0 0) [] := World.ownsRow_lit w #[] 0 (Nat.le_refl _) (Nat.zero_le _) rfl
  have C1 := Lib.hid (below_small g 7 _ (by decide) (by decide) hD0.2)
  have CO := fun W (h : Cur g W) => Lib.hid (once_any g 3 W (by decide) (by decide) h)
  have HT := Lib.hid Tryd.underlying24
  go_enter Tryd.func75, Tryd.ntmps75
  go_wp2_with fail
  refine (C1.out).mono ?_
  rintro e w1 ⟨y, rfl, hy0, hy1, hd1⟩
  obtain ⟨n0, rfl⟩ := Int.eq_ofNat_of_zero_le hy0
  have hD1 := hD0.trans hd1
  have ho1 := ho0.drew hd1 hgs
  clear hD0 ho0 hd1 C1
  go_wp2_with fail
  go_loopw [3, 4, 5, 6] (fun u e n _ wr => ∃ (k : Nat) (l : List Ent) (x : Int), n = .int .i64 k ∧ e = .int .i64 x ∧ 1 ≤ x ∧ x + (k : Int) ≤ 8 ∧ l.length + k ≤ 6 ∧ OwnE w.heap.size wr u l ∧ Drew g w wr) (fun _ _ n _ _ => (intOf n).toNat)
  case atStart => exact ⟨n0, [], 1, rfl, rfl, by omega, by omega, by simp; omega, ho1, hD1⟩
  case round =>
    obtain ⟨k, l, x, rfl, rfl, hx1, hx2, hl, hown, hD⟩ := hrel
    by_cases hlt : 0 < k
    · have t1 : decide ((k : Int) > 0) = true := decide_eq_true (by omega)
      have hw1 : IntKind.i64.wrap ((k : Int) - 1) = (k : Int) - 1 := IntWalk.i64_in _ (by omega)
      have hw2 : IntKind.i64.wrap (x + 1) = x + 1 := IntWalk.i64_in _ (by omega)
      go_wp2_with fail
      refine ((CO _ hD.2).out).mono ?_
      rintro e w3 ⟨b, rfl, hd3⟩
      have ho3 := hown.drew hd3 hgs
      have hD3 := hD.trans hd3
      cases b
      · skip
        have C3 := Lib.hid (op_any g _ hD3.2)
        go_wp2_with fail
        refine (C3.out).mono ?_
        rintro e w4 ⟨c, s, k', o, d, v, rfl, hd4⟩
        unfold opV
        have hD4 := hD3.trans hd4
        have ho4 := ho3.drew hd4 hgs
        have hbA := (Below.refl w4.heap.size w4).alloc (Nat.le_refl _) (.cells #[.int .i64 c, .int .i64 s, .int .i64 k', .int .i64 o, .int .i64 d, .int .i64 v] 60)
        have hD5 := hD4.alloc (.cells #[.int .i64 c, .int .i64 s, .int .i64 k', .int .i64 o, .int .i64 d, .int .i64 v] 60)
        have ho5 := ho4.later hbA
        have hlit := SrcE.lit (w4.alloc (.cells #[.int .i64 c, .int .i64 s, .int .i64 k', .int .i64 o, .int .i64 d, .int .i64 v] 60)) x c s k' o d v
        simp only [World.size_alloc] at hlit
        go_wp2_with (at_builtin; refine wpList_appE HT.out rfl (.tmp 20) (.tmp 24) rfl w.heap.size _ l rfl (ho5.later ((Below.refl _ _).alloc (Nat.le_refl _) _)) _ _ [⟨x, c, s, k', o, d, v⟩] rfl hlit (by simp; omega) (by have := hD5.1.size; simp at this ⊢; omega) ?_; intro v' w6 ho6 hb6 hg6)
        go_roundw
        case rel => exact ⟨k - 1, l ++ [_], x, by congr 1; omega, rfl, by omega, by omega, by simp; omega, ho6, (hD5.alloc _).below hb6 hgs⟩
        case measure => simp [intOf]; omega
      · skip
        have C3 := Lib.hid (op_any g _ hD3.2)
        go_wp2_with fail
        refine (C3.out).mono ?_
        rintro e w4 ⟨c, s, k', o, d, v, rfl, hd4⟩
        unfold opV
        have hD4 := hD3.trans hd4
        have ho4 := ho3.drew hd4 hgs
        have hbA := (Below.refl w4.heap.size w4).alloc (Nat.le_refl _) (.cells #[.int .i64 c, .int .i64 s, .int .i64 k', .int .i64 o, .int .i64 d, .int .i64 v] 60)
        have hD5 := hD4.alloc (.cells #[.int .i64 c, .int .i64 s, .int .i64 k', .int .i64 o, .int .i64 d, .int .i64 v] 60)
        have ho5 := ho4.later hbA
        have hlit := SrcE.lit (w4.alloc (.cells #[.int .i64 c, .int .i64 s, .int .i64 k', .int .i64 o, .int .i64 d, .int .i64 v] 60)) (x + 1) c s k' o d v
        simp only [World.size_alloc] at hlit
        go_wp2_with (at_builtin; refine wpList_appE HT.out rfl (.tmp 20) (.tmp 24) rfl w.heap.size _ l rfl (ho5.later ((Below.refl _ _).alloc (Nat.le_refl _) _)) _ _ [⟨x + 1, c, s, k', o, d, v⟩] rfl hlit (by simp; omega) (by have := hD5.1.size; simp at this ⊢; omega) ?_; intro v' w6 ho6 hb6 hg6)
        go_roundw
        case rel => exact ⟨k - 1, l ++ [_], x + 1, by congr 1; omega, rfl, by omega, by omega, by simp; omega, ho6, (hD5.alloc _).below hb6 hgs⟩
        case measure => simp [intOf]; omega
    · have t1 : decide ((k : Int) > 0) = false := decide_eq_false (by omega)
      go_wp2_with fail
      go_ret
      exact ⟨_, l, rfl, by omega, hown, hD⟩
set_option maxRecDepth 100000 in
set_option maxHeartbeats 8000000 in
theorem any5_any (g : Nat) (w : World) (hc : Cur g w) :
    Calls Tryd.prog 46 #[.pointer (some ⟨g, 0, none⟩)] w fun e w' => ∃ (v : Value) (L : List Ent), e = .returned v ∧ L.length ≤ 17 ∧ OwnE w.heap.size w' v L ∧ Drew g w w' := by
  have hgs := hc.lt
  have C1 := Lib.hid (log_any g w hc)
  have HT := Lib.hid Tryd.underlying24
  go_enter Tryd.func46, Tryd.ntmps46
  go_wp2_with fail
  refine (C1.out).mono ?_
  rintro e w1 ⟨u, L, rfl, hL, ho1, hd1⟩
  obtain ⟨yu, qu, rfl⟩ := ho1.shape
  have CB := Lib.hid (below_small g 14 w1 (by decide) (by decide) hd1.2)
  clear C1
  go_wp2_with fail
  refine (CB.out).mono ?_
  rintro e w2 ⟨y, rfl, hy0, hy1, hd2⟩
  have hD2 := hd1.trans hd2
  have ho2 := ho1.drew hd2 hgs
  clear CB ho1 hd1 hd2
  have hy : y = 0 ∨ y = 1 ∨ 2 ≤ y := by omega
  rcases hy with rfl | rfl | hy
  · clear hy0 hy1
    have j0 := pick_lits hD2.2 [0, 1, 20, 21] (by decide) (by decide) (by unfold fits; decide)
    simp only [List.map_cons, List.map_nil, List.length_cons, List.length_nil, Nat.reduceAdd] at j0
    have J := Lib.hid j0
    clear j0
    go_wp2_with fail
    refine (J.out).mono ?_
    rintro e w3 ⟨x, rfl, hf, hd3⟩
    have hD3 := hD2.trans hd3
    have ho3 := ho2.drew hd3 hgs
    have CA := Lib.hid (anyOp_any g w3 hD3.2)
    clear J ho2 hD2 hd3
    go_wp2_with fail
    refine (CA.out).mono ?_
    rintro e w4 ⟨c, s, k', o, d, v, rfl, hd4⟩
    unfold opV
    have hD4 := hD3.trans hd4
    have ho4 := ho3.drew hd4 hgs
    have hzz := hD4.1.size
    have hlit := SrcE.lit w4 x c s k' o d v
    go_wp2_with (at_builtin; refine wpList_appE HT.out rfl (.tmp 11) (.tmp 18) rfl w.heap.size _ L rfl (ho4.later ((Below.refl _ _).alloc (Nat.le_refl _) _)) _ _ [⟨x, c, s, k', o, d, v⟩] rfl hlit (by simp; omega) (by simp; omega) ?_; intro v' w6 ho6 hb6 hg6)
    go_ret
    exact ⟨_, L ++ [_], rfl, by simp; omega, ho6, (hD4.alloc _).below hb6 hgs⟩
  · clear hy0 hy1
    go_wp2_with fail
    go_loopw [3, 4] (fun u _ wr => ∃ (l : List Ent) (a : Option Addr) (q : Nat), u = .slice a l.length q ∧ l.length ≤ 17 ∧ OwnE w.heap.size wr (.slice a l.length q) l ∧ Drew g w wr) (fun u _ _ => 17 - lenOf u)
    case atStart => exact ⟨L, _, _, rfl, by omega, ho2, hD2⟩
    case round =>
      obtain ⟨l, a, q, rfl, hl, ho3, hD3⟩ := hrel
      by_cases hlt : l.length < 17
      · have t1 : decide ((l.length : Int) < 17) = true := decide_eq_true (by omega)
        have CA := Lib.hid (op_any g _ hD3.2)
        go_wp2_with fail
        refine (CA.out).mono ?_
        rintro e w4 ⟨c, s, k', o, d, v, rfl, hd4⟩
        unfold opV
        have hD4 := hD3.trans hd4
        have ho4 := ho3.drew hd4 hgs
        have hzz := hD4.1.size
        have hbA := (Below.refl w4.heap.size w4).alloc (Nat.le_refl _) (.cells #[.int .i64 c, .int .i64 s, .int .i64 k', .int .i64 o, .int .i64 d, .int .i64 v] 60)
        have hD5 := hD4.alloc (.cells #[.int .i64 c, .int .i64 s, .int .i64 k', .int .i64 o, .int .i64 d, .int .i64 v] 60)
        have ho5 := ho4.later hbA
        have hlit := SrcE.lit (w4.alloc (.cells #[.int .i64 c, .int .i64 s, .int .i64 k', .int .i64 o, .int .i64 d, .int .i64 v] 60)) 20 c s k' o d v
        simp only [World.size_alloc] at hlit
        go_wp2_with (at_builtin; refine wpList_appE HT.out rfl (.tmp 27) (.tmp 30) rfl w.heap.size _ l rfl (ho5.later ((Below.refl _ _).alloc (Nat.le_refl _) _)) _ _ [⟨20, c, s, k', o, d, v⟩] rfl hlit (by simp; omega) (by simp; omega) ?_; intro v' w6 ho6 hb6 hg6; obtain ⟨a6, q6, rfl⟩ := ho6.shape)
        go_roundw
        case rel => exact ⟨l ++ [⟨20, c, s, k', o, d, v⟩], a6, q6, by rw [List.length_append]; rfl, by simp; omega, ho6, (hD5.alloc _).below hb6 hgs⟩
        case measure => simp [lenOf]; omega
      · have t1 : decide ((l.length : Int) < 17) = false := decide_eq_false (by omega)
        go_wp2_with fail
        go_ret
        exact ⟨_, l, rfl, by omega, ho3, hD3⟩
  · have t0 : (y == 0) = false := by rw [beq_eq_false_iff_ne]; omega
    have t1 : (y == 1) = false := by rw [beq_eq_false_iff_ne]; omega
    go_wp2_with fail
    go_ret
    exact ⟨_, L, rfl, by omega, ho2, hD2⟩
theorem run_uptoV (W : World) (a : Option Addr) (n cap k : Nat) (hk : k ≤ cap) : (Instr.slice 24 (.slice a n cap) none (some (.int .i64 (k : Int))) none).run Tryd.prog W = .ok (.slice a k cap) W := by
  rw [run_slice_h (P := Tryd.prog) W 24 a n cap (by kernel_rfl) .i64 (k : Int) (by omega) (by omega)]
  have hs : (sizeOf (Tryd.prog.elem 24)).run Tryd.prog W = .ok 7 W := by kernel_rfl
  rw [hs]
  show Result.ok (sliced a 0 (k : Int).toNat cap 7) W = _
  rw [Int.toNat_natCast]
  unfold sliced
  by_cases h : cap = 0
  · rw [if_pos h, Nat.sub_zero, Nat.sub_zero]
  · rw [if_neg h, Nat.sub_zero, Nat.sub_zero, Nat.zero_mul]
    cases a with
    | none => rfl
    | some p => rw [Option.map_some, add_zero']
theorem srcE_up {B B' : Nat} {w : World} {v : Value} {L : List Ent} (h : SrcE B w v L) (hB : B ≤ B') : SrcE B' w v L := by
  rcases h with h | ⟨g, of, c, h1, h2, h3⟩
  · exact .inl h
  · exact .inr ⟨g, of, c, h1, by omega, h3⟩
/-- the first k entries of a source -/
theorem srcE_upto {B : Nat} {w : World} {a : Option Addr} {n q k : Nat} {L : List Ent} (h : SrcE B w (.slice a n q) L) (hk : k ≤ L.length) : SrcE B w (.slice a k q) (L.take k) := by
  rcases h with ⟨h1, h2⟩ | ⟨g, of, c, h1, h2, h3⟩
  · subst h2
    injection h1 with e1 e2 e3
    subst e1 e3
    have : k = 0 := by simpa using hk
    subst this
    exact .inl ⟨rfl, rfl⟩
  · injection h1 with e1 e2 e3
    subst e1 e3
    refine .inr ⟨g, of, _, by rw [List.length_take, Nat.min_eq_left hk], h2, fun j hj => ?_⟩
    rw [List.length_take] at hj
    rw [gE_take (by omega)]
    exact h3 j (by omega)
set_option maxRecDepth 100000 in
theorem copySrc (B : Nat) (v : Value) (L : List Ent) (w : World) (hl : L.length ≤ 2097152) (hB : B ≤ w.heap.size) (h : SrcE B w v L) :
    Calls Tryd.prog 71 #[v] w fun e w' => ∃ u, e = .returned u ∧ OwnE w.heap.size w' u L ∧ Below w.heap.size w w' := by
  have HS := Lib.hid h
  have HE := Lib.hid (show OwnE w.heap.size (w.alloc (.cells #[] 62)) (.slice (some ⟨w.heap.size, 0, none⟩) 0 0) [] from World.ownsRow_lit w #[] 0 (Nat.le_refl _) (Nat.zero_le _) rfl)
  have HT := Lib.hid Tryd.underlying24
  clear h
  go_enter Tryd.func71, Tryd.ntmps71
  go_wp2_with (at_builtin; refine wpList_appE HT.out rfl (.tmp 3) (.tmp 4) rfl w.heap.size _ [] rfl HE.out w.heap.size _ L rfl (srcE_up (HS.out.below ((Below.refl w.heap.size w).alloc (Nat.le_refl _) _) hB) hB) (by simp; omega) (by simp) ?_; intro v1 w1 ho1 hb1 hg1)
  go_ret
  exact ⟨v1, rfl, by simpa using ho1, ((Below.refl _ _).alloc (Nat.le_refl _) _).trans hb1⟩
set_option maxRecDepth 100000 in
set_option maxHeartbeats 8000000 in
theorem two5_any (A : Option Addr) (len cap : Nat) (zs : List Int) (w : World) (hc : Code w A len cap zs) :
    Calls Tryd.prog 40 #[.slice A len cap] w fun e w' => ∃ (v1 v2 : Value) (L1 L2 : List Ent), e = .returned (.tuple #[v1, v2]) ∧ L1.length ≤ 17 ∧ L2.length ≤ 19 ∧ OwnE w.heap.size w' v1 L1 ∧ OwnE w.heap.size w' v2 L2 ∧ Below w.heap.size w w' := by
  have C1 := Lib.hid (new_any A len cap zs w hc.row hc.low)
  have HT := Lib.hid Tryd.underlying24
  go_enter Tryd.func40, Tryd.ntmps40
  go_wp2_with fail
  refine (C1.out).mono ?_
  rintro e w1 ⟨rfl, hcur, hb1⟩
  have C2 := Lib.hid (any5_any w.heap.size w1 hcur)
  have hlt := hcur.lt
  clear C1
  go_wp2_with fail
  refine (C2.out).mono ?_
  rintro e w2 ⟨v1, L1, rfl, hL1, ho1, hd2⟩
  obtain ⟨y1, q1, rfl⟩ := ho1.shape
  have C3 := Lib.hid (once_any w.heap.size 3 w2 (by decide) (by decide) hd2.2)
  have hb2 := drew_below hb1 (Nat.le_refl _) hd2
  clear C2
  go_wp2_with fail
  refine (C3.out).mono ?_
  rintro e w3 ⟨b, rfl, hd3⟩
  have hb3 := drew_below hb2 (Nat.le_refl _) hd3
  have ho3 := ho1.drew hd3 hlt
  have hz3 := hb3.size
  clear C3
  cases b
  · have hw : IntKind.i64.wrap ((L1.length : Int) + 1) = (L1.length : Int) + 1 := IntWalk.i64_in _ (by omega)
    have C4 := Lib.hid (below_small w.heap.size ((L1.length : Int) + 1) w3 (by omega) (by omega) hd3.2)
    go_wp2_with fail
    refine (C4.out).mono ?_
    rintro e w4 ⟨y, rfl, hy0, hy1, hd4⟩
    obtain ⟨k, rfl⟩ := Int.eq_ofNat_of_zero_le hy0
    have hb4 := drew_below hb3 (Nat.le_refl _) hd4
    have ho4 := ho3.drew hd4 hlt
    have hq : L1.length ≤ q1 := by
      obtain ⟨_, _, h', hle, _⟩ := ho4.form
      cases h'
      exact hle
    have R := fun W => run_uptoV W y1 L1.length q1 k (by omega)
    have C5 := Lib.hid (copySrc w4.heap.size (.slice y1 k q1) (L1.take k) w4 (by rw [List.length_take]; omega) (Nat.le_refl _) (srcE_upto (SrcE.own ho4) (by omega)))
    have hlk : (L1.take k).length ≤ 17 := by rw [List.length_take]; omega
    generalize L1.take k = L2 at *
    clear C4 hw
    go_wp2_with fail
    refine (C5.out).mono ?_
    rintro e w5 ⟨v2, rfl, ho5, hbc⟩
    have hb5 := hb4.trans (hbc.mono hb4.size)
    have hcur5 := Cur.below hd4.2 hbc hd4.2.lt
    have hp5 := ho4.later hbc
    have hlow4 : ∀ gg, (Value.slice y1 L1.length q1).ownBlock = some gg → gg < w4.heap.size := fun gg h => (ho4.row.lt gg h).2
    have hz14 : w1.heap.size ≤ w4.heap.size := ((hd2.trans hd3).trans hd4).1.size
    have hD5 : Drew w.heap.size w1 w5 := ((hd2.trans hd3).trans hd4).below (hbc.mono hz14) hlt
    have C6 := Lib.hid (below_small w.heap.size 3 w5 (by decide) (by decide) hcur5)
    clear C5 R hq
    go_wp2_with fail
    refine (C6.out).mono ?_
    rintro e w6 ⟨n, rfl, hn0, hn1, hd6⟩
    obtain ⟨n0, rfl⟩ := Int.eq_ofNat_of_zero_le hn0
    have hD6 := hD5.trans hd6
    have hz46 : w4.heap.size ≤ w6.heap.size := Nat.le_trans hbc.size hd6.1.size
    have hp6 := hp5.drew hd6 hlt
    have hr6 := ho5.drew hd6 (Nat.lt_of_lt_of_le hlt hz14)
    clear C6 ho4 ho3 ho1 ho5 hp5 hD5 hd6 hd4 hd3 hd2 hb2 hb3 hb4 hb5 hcur5
    go_wp2_with fail
    go_loopw [6, 7, 8] (fun u n _ wr => ∃ (k : Nat) (l : List Ent), n = .int .i64 k ∧ k ≤ 2 ∧ l.length + k ≤ 19 ∧ OwnE w4.heap.size wr u l ∧ OwnE w1.heap.size wr (.slice y1 L1.length q1) L1 ∧ w4.heap.size ≤ wr.heap.size ∧ Drew w.heap.size w1 wr) (fun _ n _ _ => (intOf n).toNat)
    case atStart => exact ⟨n0, L2, rfl, by omega, by omega, hr6, hp6, hz46, hD6⟩
    case round =>
      obtain ⟨k, l, rfl, hk, hl, hu, hp, hzr, hD⟩ := hrel
      by_cases hk0 : 0 < k
      · have t1 : decide ((k : Int) > 0) = true := decide_eq_true (by omega)
        have hw1 : IntKind.i64.wrap ((k : Int) - 1) = (k : Int) - 1 := IntWalk.i64_in _ (by omega)
        have CA := Lib.hid (op_any w.heap.size _ hD.2)
        go_wp2_with fail
        refine (CA.out).mono ?_
        rintro e w7 ⟨c, s, k', o, d, v, rfl, hd7⟩
        unfold opV
        have hD7 := hD.trans hd7
        have hp7 := hp.drew hd7 hlt
        have hu7 := hu.drew hd7 (Nat.lt_of_lt_of_le hlt hz14)
        have hz7 : w4.heap.size ≤ w7.heap.size := Nat.le_trans hzr hd7.1.size
        have hbA := (Below.refl w7.heap.size w7).alloc (Nat.le_refl _) (.cells #[.int .i64 c, .int .i64 s, .int .i64 k', .int .i64 o, .int .i64 d, .int .i64 v] 60)
        have hD8 := hD7.alloc (.cells #[.int .i64 c, .int .i64 s, .int .i64 k', .int .i64 o, .int .i64 d, .int .i64 v] 60)
        have hu8 := hu7.later hbA
        have hp8 := hp7.later hbA
        have hlit := SrcE.lit (w7.alloc (.cells #[.int .i64 c, .int .i64 s, .int .i64 k', .int .i64 o, .int .i64 d, .int .i64 v] 60)) 9 c s k' o d v
        simp only [World.size_alloc] at hlit
        have hpp := hp8.later ((Below.refl _ _).alloc (Nat.le_refl _) (.cells #[.int .i64 9, .int .i64 c, .int .i64 s, .int .i64 k', .int .i64 o, .int .i64 d, .int .i64 v] 62))
        clear hp hu hp7 hp8 hbA
        go_wp2_with (at_builtin; refine wpList_appE HT.out rfl (.tmp 34) (.tmp 37) rfl w4.heap.size _ l rfl (hu8.later ((Below.refl _ _).alloc (Nat.le_refl _) _)) _ _ [⟨9, c, s, k', o, d, v⟩] rfl hlit (by simp; omega) (by simp; omega) ?_; intro v' w9 ho9 hb9 hg9)
        go_roundw
        case rel => exact ⟨k - 1, l ++ [_], by congr 1; omega, by omega, by simp; omega, ho9, hpp.marked hg9 (fun gg h1 h2 => by have h3 := (hu7.row.lt gg h1).1; have h4 := hlow4 gg h2; omega), by have := hb9.size; simp at this; omega, (hD8.alloc _).below (hb9.mono hz14) hlt⟩
        case measure => simp [intOf]; omega
      · have t1 : decide ((k : Int) > 0) = false := decide_eq_false (by omega)
        go_wp2_with fail
        go_ret2
        exact ⟨_, _, L1, l, rfl, hL1, by omega, hp.mono (Nat.le_of_lt hlt), hu.mono (Nat.le_trans (Nat.le_of_lt hlt) hz14), drew_below hb1 (Nat.le_refl _) hD⟩
  · have C4 := Lib.hid (any5_any w.heap.size w3 hd3.2)
    go_wp2_with fail
    refine (C4.out).mono ?_
    rintro e w4 ⟨v2, L2, rfl, hL2, ho4, hd4⟩
    have hb4 := drew_below hb3 (Nat.le_refl _) hd4
    have ho14 := (ho3.drew hd4 hlt).mono (Nat.le_of_lt hlt)
    go_wp2_with fail
    go_ret2
    exact ⟨_, _, L1, L2, rfl, hL1, by omega, ho14, ho4.mono hz3, hb4⟩
theorem drawCommonPrefix (A : Option Addr) (len cap : Nat) (zs : List Int) (w : World) (hc : Code w A len cap zs) :
    Calls Tryd.prog 10 #[.slice A len cap] w fun e w' => ∃ (v1 v2 : Value) (L1 L2 : List Ent), e = .returned (.tuple #[v1, v2]) ∧ L1.length ≤ 17 ∧ L2.length ≤ 19 ∧ OwnE w.heap.size w' v1 L1 ∧ OwnE w.heap.size w' v2 L2 ∧ Below w.heap.size w w' := by
  have C1 := Lib.hid (two5_any A len cap zs w hc)
  go_enter Tryd.func10, Tryd.ntmps10
  go_wp2_with fail
  refine (C1.out).mono ?_
  rintro e w1 ⟨v1, v2, L1, L2, rfl, h1, h2, o1, o2, hb⟩
  go_wp2_with fail
  go_ret2
  exact ⟨_, _, L1, L2, rfl, h1, h2, o1, o2, hb⟩
end Go.Proofs.YtbnepdecfnhgoaaDoor.kit
