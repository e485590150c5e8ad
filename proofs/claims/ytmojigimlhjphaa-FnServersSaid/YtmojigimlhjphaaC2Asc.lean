/-
  Chapter 2, the program's sets: a list's numbers in ascending order without repetitions (cloned, sorted, its runs struck).
-/
import Derived.Test.YtmojigimlhjphaaSetMath2
import Derived.Test.YtmojigimlhjphaaS2Plain
import Derived.Sort.OwnSortedInts
namespace Go.Proofs.Ytmojigimlhjphaa.kit
open Go.ChangeShapes Go.WideShapes Go.ChangeAt Go.RowKit Go.Sort
set_option linter.unusedVariables false
set_option linter.unusedSimpArgs false

theorem OwnI.ofRow {base : Nat} {w : World} {v : Value} {l : List Int} {n : Nat} {cs : List Value} (h : w.ownsRow base 3 1 v n cs) (hc : cs = l.map (Value.int .i64)) : OwnI base w v l := OwnI.of h hc
/-- a row of the call's own, cut to its first numbers -/
theorem ownsRow_short {base g cap n m : Nat} {e : TypeId} {w : World} {xs : List Value} (h : w.ownsRow base e 1 (.slice (some ⟨g, 0, none⟩) n cap) n xs) (hm : m ≤ n) : w.ownsRow base e 1 (.slice (some ⟨g, 0, none⟩) m cap) m (xs.take m) := by
  obtain ⟨h1, h2 | ⟨g', c', cur, hv, hg, hh, hn, hcap, hs, ht⟩⟩ := h
  · cases h2.1
  · cases hv
    refine ⟨by rw [List.length_take]; omega, .inr ⟨g, cap, cur, rfl, hg, hh, by omega, hcap, hs, ?_⟩⟩
    rw [← ht, List.take_take]
    congr 1
    omega
set_option maxRecDepth 100000 in
theorem implAsc (b : Nat) (v : Value) (l : List Int) (w : World) (hl : l.length ≤ 4194304) (o : OwnI b w v l) :
    Calls Try.prog 64 #[v] w fun e w' => ∃ v', e = .returned v' ∧ OwnI w.heap.size w' v' (ascending l) ∧ Below w.heap.size w w' := by
  by_cases h0 : 0 < l.length
  · obtain ⟨g, c, rfl, hc1, hc2, _, _⟩ := o.there h0
    have C1 := Lib.hid (Try.slices_Clone_int g 0 l.length c l w (Nat.le_refl _) (by omega) o.cells)
    clear o
    go_enter Try.func64, Try.ntmps64
    go_wp2_with fail
    refine (C1.out).mono ?_
    rintro e w1 ⟨v1, rfl, ho1, hne, hb1⟩
    rw [List.take_length] at ho1
    obtain ⟨hlen, h2 | ⟨g1, k1, cur, rfl, hg1, hh1, hn1, hm1, hs1, ht1⟩⟩ := ho1
    · exact absurd h2.1 hne
    have hlt : g1 < w1.heap.size := (Array.getElem?_eq_some_iff.1 hh1).1
    have C2 := Lib.hid (Try.slices_Sort_int g1 0 k1 l w1 (holds_of_blockI hh1 (by rw [← ht1, Nat.mul_one])) hlt (by omega))
    have HH := Lib.hid hh1
    have HT := Lib.hid ht1
    clear hh1 ht1 hlen hne
    go_wp2_with fail
    refine (C2.out).mono ?_
    rintro e w2 ⟨rfl, n, os, hw2⟩
    have ho2 := ownsRow_sortedI (n := n) (os := os) (ss := l) (ts := sorted l) (sorted_length l) hg1 HH.out hn1 hm1 hs1
    have hb2 : w1.grownBy w2 (some g1) := by rw [hw2]; exact grownBy_sortedI _
    change w2 = grow (putRow (Value.int .i64) (Sort.ahead w1 n) g1 0 (sorted l).toArray) os at hw2
    rw [← hw2] at ho2
    clear hw2
    obtain ⟨hlen2, h3 | ⟨g', k', cur2, hv2, _, hh2, _, _, hs2, ht2⟩⟩ := ho2
    · cases h3.1
    cases hv2
    have hh3 := holds_of_blockI (ss := sorted l) hh2 (by rw [← ht2, Nat.mul_one, sorted_length])
    have C3 := Try.slices_Compact_int g1 0 k1 (sorted l) w2 hh3 (by rw [sorted_length]; omega) (by rw [sorted_length]; omega)
    rw [sorted_length] at C3
    have C3 := Lib.hid C3
    have HH2 := Lib.hid hh2
    have HT2 := Lib.hid ht2
    clear hh2 ht2 hlen2 hh3
    go_wp2_with fail
    refine (C3.out).mono ?_
    rintro e w3 ⟨rfl, q, hw3⟩
    have hcl : (ascending l).length ≤ l.length := ascending_len l
    have hb3 : w2.grownBy w3 (some g1) := by rw [hw3, ← grow_empty (putRow _ _ _ _ _)]; exact grownBy_sortedI _
    have ho3 : OwnI w.heap.size w3 (.slice (some ⟨g1, 0, none⟩) (ascending l).length k1) (ascending l) := by
      have h := ownsRow_sortedI (n := q) (os := #[]) (ss := l) (ts := Lib.compact (sorted l) ++ List.replicate (l.length - (Lib.compact (sorted l)).length) 0) (by
        have : (Lib.compact (sorted l)).length ≤ l.length := hcl
        rw [List.length_append, List.length_replicate]; omega) hg1 HH2.out hn1 hm1 hs2
      rw [grow_empty] at h
      have hw3' : w3 = putRow (Value.int .i64) (Sort.ahead w2 q) g1 0 (Lib.compact (sorted l) ++ List.replicate (l.length - (Lib.compact (sorted l)).length) 0).toArray := hw3
      rw [← hw3'] at h
      have h' := ownsRow_short h hcl
      refine OwnI.of h' ?_
      rw [List.map_append, List.take_left' (by rw [List.length_map]; rfl)]
      rfl
    have hbw : Below w.heap.size w w3 := (hb1.grown hb2 hb1.size (fun k hk => by cases hk; exact hg1)).grown hb3 (Nat.le_trans hb1.size hb2.size) (fun k hk => by cases hk; exact hg1)
    have HO := Lib.hid ho3
    have HB := Lib.hid hbw
    clear hw3 ho3 hbw
    go_wp2_with fail
    go_ret
    exact ⟨_, rfl, HO.out, HB.out⟩
  · obtain rfl : l = [] := List.eq_nil_of_length_eq_zero (by omega)
    rw [ascending_nil]
    rcases o.2 with ⟨rfl, _⟩ | ⟨g, c, cur, rfl, _⟩
    · have C1 := Lib.hid (Try.slices_Clone_int_nil 0 0 w)
      clear o
      go_enter Try.func64, Try.ntmps64
      go_wp2_with fail
      refine (C1.out).mono ?_
      rintro e w1 ⟨rfl, hw1⟩
      go_wp2_with fail
      refine (Try.slices_Sort_int_none none 0 _).mono ?_
      rintro e w2 ⟨rfl, hw2⟩
      go_wp2_with fail
      refine (Try.slices_Compact_int_empty none 0 _).mono ?_
      rintro e w3 ⟨rfl, hw3⟩
      obtain rfl : w3 = w := by simp_all

      go_wp2_with fail
      go_ret
      exact ⟨_, rfl, World.ownsRow_nil _ _ _ _, Below.refl _ _⟩
    · have C1 := Lib.hid (Try.slices_Clone_int_zero ⟨g, 0, none⟩ c w)
      clear o
      go_enter Try.func64, Try.ntmps64
      go_wp2_with fail
      refine (C1.out).mono ?_
      rintro e w1 ⟨v1, rfl, ho1, hne, hb1⟩
      obtain ⟨hlen, h2 | ⟨g1, k1, cur, rfl, hg1, hh1, hn1, hm1, hs1, ht1⟩⟩ := ho1
      · exact absurd h2.1 hne
      have HO := Lib.hid (show OwnI w.heap.size w1 (.slice (some ⟨g1, 0, none⟩) 0 k1) [] from ⟨rfl, .inr ⟨g1, k1, cur, rfl, hg1, hh1, hn1, hm1, hs1, ht1⟩⟩)
      have HB := Lib.hid hb1
      clear hh1 ht1 hlen hne hb1
      go_wp2_with fail
      refine (Try.slices_Sort_int_none (some ⟨g1, 0, none⟩) k1 _).mono ?_
      rintro e w2 ⟨rfl, hw2⟩
      go_wp2_with fail
      refine (Try.slices_Compact_int_empty (some ⟨g1, 0, none⟩) k1 _).mono ?_
      rintro e w3 ⟨rfl, hw3⟩
      obtain rfl : w3 = w1 := by simp_all

      go_wp2_with fail
      go_ret
      exact ⟨_, rfl, HO.out, HB.out⟩
end Go.Proofs.Ytmojigimlhjphaa.kit
