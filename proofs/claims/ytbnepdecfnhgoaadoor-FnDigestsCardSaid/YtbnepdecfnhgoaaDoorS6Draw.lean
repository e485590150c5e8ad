/-
  Chapter 6: the draw of ProvesPrefix; what the law of digests asks of the plain functions.
-/
import Derived.Test.YtbnepdecfnhgoaaDoorL5Draw
import Derived.Test.YtbnepdecfnhgoaaDoorS6Prove
import Derived.Test.YtbnepdecfnhgoaaDoorS6Diff
import Derived.Test.YtbnepdecfnhgoaaDoorS5Pre
namespace Go.Proofs.YtbnepdecfnhgoaaDoor.kit
open Go.ChangeShapes Go.WideShapes Go.ChangeAt Go.RowKit
set_option linter.unusedVariables false
set_option linter.unusedSimpArgs false

theorem comPre_eq : ∀ (a b : List Ent) (j : Nat), j < comPre a b → gE a j = gE b j
  | [], b, j, h => by simp [comPre] at h
  | x :: a, [], j, h => by simp [comPre] at h
  | x :: a, y :: b, j, h => by
    unfold comPre at h
    by_cases e : x = y
    · rw [if_pos e] at h
      cases j with
      | zero => exact e
      | succ j => exact comPre_eq a b j (by omega)
    · rw [if_neg e] at h; omega
theorem cpI_ne : ∀ (a b : List Int), cpI a b ≤ a.length ∧ cpI a b ≤ b.length ∧ (cpI a b < a.length → cpI a b < b.length → a.getD (cpI a b) 0 ≠ b.getD (cpI a b) 0)
  | [], b => by simp [cpI]
  | x :: a, [] => by simp [cpI]
  | x :: a, y :: b => by
    unfold cpI
    by_cases e : x = y
    · rw [if_pos e]
      obtain ⟨h1, h2, h3⟩ := cpI_ne a b
      refine ⟨by simp; omega, by simp; omega, fun p q => ?_⟩
      simp only [List.getD_cons_succ]
      exact h3 (by simpa using p) (by simpa using q)
    · rw [if_neg e]
      exact ⟨by simp, by simp, fun _ _ => e⟩
theorem dg_pre {a b : List Ent} : ∀ k, (∀ j, j < k → gE a j = gE b j) → dg a k = dg b k
  | 0, _ => rfl
  | k + 1, h => by
    show (dg a k * 31 + cksum (fmtL [gE a k])) % 9973 = (dg b k * 31 + cksum (fmtL [gE b k])) % 9973
    rw [dg_pre k (fun j hj => h j (by omega)), h k (by omega)]
/-- the first different digest lies behind the common prefix -/
theorem fdiff_behind {a b : List Ent} (ha : LOk a) (hb : LOk b) (h0 : 0 ≤ fdiff (digL a) (digL b)) : ((comPre a b : Nat) : Int) < fdiff (digL a) (digL b) := by
  have hA : digL a = dgs a (a.length + 1) := by unfold digL; rw [if_pos ha]
  have hB : digL b = dgs b (b.length + 1) := by unfold digL; rw [if_pos hb]
  obtain ⟨h1, h2, h3⟩ := cpI_ne (digL a) (digL b)
  obtain ⟨l1, l2⟩ := comPre_le a b
  have hgt : comPre a b < cpI (digL a) (digL b) := by
    by_cases h : comPre a b < cpI (digL a) (digL b)
    · exact h
    · exfalso
      refine h3 (by rw [hA, dgs_len] at *; omega) (by rw [hB, dgs_len] at *; omega) ?_
      generalize cpI (digL a) (digL b) = k at *
      rw [hA, hB, dgs_get a _ _ (by omega), dgs_get b _ _ (by omega)]
      exact dg_pre k (fun j hj => comPre_eq a b j (by omega))
  unfold fdiff at h0 ⊢
  split
  · rename_i h; rw [if_pos h] at h0; omega
  · omega
theorem digO_pos {L : List Ent} {n : Int} (h : LOk L) (h0 : 0 ≤ n) (h1 : n ≤ L.length) : 0 ≤ digO L n := by
  unfold digO
  rw [if_pos ⟨h, h0, h1⟩]
  exact (dg_in L _).1
theorem digO_fits (L : List Ent) (n : Int) : -1 ≤ digO L n ∧ digO L n ≤ 9972 := by
  unfold digO
  split
  · have := dg_in L n.toNat; omega
  · omega
theorem proves_self {L : List Ent} {n : Int} (h : LOk L) (h0 : 0 ≤ n) (h1 : n ≤ L.length) : provesP L n (digO L n) = true := by
  unfold provesP
  rw [decide_eq_true (digO_pos h h0 h1)]
  simp
set_option maxRecDepth 100000 in
set_option maxHeartbeats 4000000 in
theorem drawProvesPrefix (A : Option Addr) (len cap : Nat) (zs : List Int) (w : World) (hc : Code w A len cap zs) :
    Calls Tryd.prog 18 #[.slice A len cap] w fun e w' => ∃ (v : Value) (L : List Ent) (n d : Int), e = .returned (.tuple #[v, .int .i64 n, .int .i64 d]) ∧ L.length ≤ 17 ∧ 0 ≤ n ∧ n ≤ 20 ∧ OwnE w.heap.size w' v L ∧ Below w.heap.size w w' := by
  have C1 := Lib.hid (new_any A len cap zs w hc.row hc.low)
  go_enter Tryd.func18, Tryd.ntmps18
  go_wp2_with fail
  refine (C1.out).mono ?_
  rintro e w1 ⟨rfl, hcur, hb1⟩
  have C2 := Lib.hid (any5_any w.heap.size w1 hcur)
  have hlt := hcur.lt
  clear C1
  go_wp2_with fail
  refine (C2.out).mono ?_
  rintro e w2 ⟨v1, L, rfl, hL, ho1, hd2⟩
  obtain ⟨y1, q1, rfl⟩ := ho1.shape
  have hb2 := drew_below hb1 (Nat.le_refl _) hd2
  have hw : IntKind.i64.wrap ((L.length : Int) + 2) = (L.length : Int) + 2 := IntWalk.i64_in _ (by omega)
  have C3 := Lib.hid (below_small w.heap.size ((L.length : Int) + 2) w2 (by omega) (by omega) hd2.2)
  clear C2
  go_wp2_with fail
  refine (C3.out).mono ?_
  rintro e w3 ⟨y, rfl, hy0, hy1, hd3⟩
  have hb3 := drew_below hb2 (Nat.le_refl _) hd3
  have ho3 := ho1.drew hd3 hlt
  have C4 := Lib.hid (specDigestOf _ _ L y w3 (by omega) ho3)
  have hdf := digO_fits L y
  generalize digO L y = dv at *
  clear C3 hw
  go_wp2_with fail
  refine (C4.out).mono ?_
  rintro e w4 ⟨rfl, hb⟩
  have hb4 := hb3.trans (hb.mono hb3.size)
  have hcur4 := Cur.below hd3.2 hb hd3.2.lt
  have ho4 := ho3.later hb
  have C5 := Lib.hid (once_any w.heap.size 4 w4 (by decide) (by decide) hcur4)
  clear C4
  go_wp2_with fail
  refine (C5.out).mono ?_
  rintro e w5 ⟨b, rfl, hd5⟩
  have hb5 := drew_below hb4 (Nat.le_refl _) hd5
  have ho5 := ho4.drew hd5 hlt
  clear C5
  cases b
  · go_wp2_with fail
    refine bodyPost_ret (v := .tuple #[.slice y1 L.length q1, .int .i64 y, .int .i64 dv]) (by simp [results, Tryd.results18, go_sem]) rfl ?_
    exact ⟨_, L, y, dv, rfl, hL, hy0, by omega, ho5.mono (Nat.le_of_lt hlt), hb5⟩
  · have hw5 : IntKind.i64.wrap (dv + 1) = dv + 1 := IntWalk.i64_in _ (by omega)
    have j0 := pick_lits hd5.2 [-1, 0, 11, dv + 1] (by simp) (by simp) (by
      intro z hz
      simp only [List.mem_cons, List.not_mem_nil, or_false] at hz
      unfold fits
      rcases hz with rfl | rfl | rfl | rfl <;> omega)
    simp only [List.map_cons, List.map_nil, List.length_cons, List.length_nil, Nat.reduceAdd] at j0
    have J := Lib.hid j0
    clear j0
    go_wp2_with fail
    refine (J.out).mono ?_
    rintro e w6 ⟨z, rfl, hf, hd6⟩
    have hb6 := drew_below hb5 (Nat.le_refl _) hd6
    have ho6 := ho5.drew hd6 hlt
    go_wp2_with fail
    refine bodyPost_ret (v := .tuple #[.slice y1 L.length q1, .int .i64 y, .int .i64 z]) (by simp [results, Tryd.results18, go_sem]) rfl ?_
    exact ⟨_, L, y, z, rfl, hL, hy0, by omega, ho6.mono (Nat.le_of_lt hlt), hb6⟩
end Go.Proofs.YtbnepdecfnhgoaaDoor.kit
