/-
  Chapter 2, the specification's sets: the union, the intersection and the difference, by loops that put number after number.
-/
import Derived.Test.YtgjebjoaemeeoaaS2Put
namespace Go.Proofs.Ytgjebjoaemeeoaa.kit
open Go.ChangeShapes Go.WideShapes Go.ChangeAt Go.RowKit
set_option linter.unusedVariables false
set_option linter.unusedSimpArgs false

theorem mem_filter_take (l : List Int) (k : Nat) (hlt : k < l.length) (p : Int → Bool) : (l.take (k + 1)).filter p = if p (l.getD k 0) = true then (l.take k).filter p ++ [l.getD k 0] else (l.take k).filter p := by
  rw [take_snocI l k hlt, List.filter_append]
  by_cases h : p (l.getD k 0) = true
  · rw [if_pos h, List.filter_cons, if_pos h]; rfl
  · rw [if_neg h, List.filter_cons, if_neg h]; simp
set_option maxRecDepth 100000 in
theorem specCommon_any (a1 a2 : Option Addr) (c1 c2 : Nat) (l1 l2 : List Int) (w : World) (h1 : l1.length ≤ 1048576) (h2 : l2.length ≤ 1048576) (ha1 : At w a1 l1) (ha2 : At w a2 l2) :
    Calls Try.prog 58 #[.slice a1 l1.length c1, .slice a2 l2.length c2] w fun e w' => ∃ v, e = .returned v ∧ OwnI w.heap.size w' v (puts [] (l1.filter fun x => decide (x ∈ l2))) ∧ Below w.heap.size w w' := by
  have HA := Lib.hid ha1
  have HA2 := Lib.hid ha2
  clear ha1 ha2
  go_enter Try.func58, Try.ntmps58
  go_wp2_with fail
  go_loopw [5, 6] (fun v i wr => ∃ k : Nat, k ≤ l1.length ∧ i = .int .i64 k ∧ OwnI w.heap.size wr v (puts [] ((l1.take k).filter fun x => decide (x ∈ l2))) ∧ Below w.heap.size w wr) (fun _ i _ => l1.length - (intOf i).toNat)
  case atStart => exact ⟨0, Nat.zero_le _, rfl, World.ownsRow_lit w #[] 0 (Nat.le_refl _) (Nat.zero_le _) rfl, (Below.refl _ _).alloc (Nat.le_refl _) _⟩
  case round =>
    obtain ⟨k, hk, rfl, ho, hb⟩ := hrel
    by_cases hlt : k < l1.length
    · obtain ⟨p, rfl, hp, hc⟩ := HA.out k hlt
      have hc' : wr.cell? (p.add k) = some (.int .i64 (l1.getD k 0)) := (hb.cell (p := p.add k) (by unfold Addr.add; split <;> exact hp)).trans hc
      have hlen : (puts [] ((l1.take k).filter fun x => decide (x ∈ l2))).length ≤ 4194304 := by
        have := puts_length ((l1.take k).filter fun x => decide (x ∈ l2)) []
        have h3 := List.length_filter_le (fun x => decide (x ∈ l2)) (l1.take k)
        rw [List.length_take] at h3; simp only [List.length_nil, Nat.zero_add] at this; omega
      have C1 := Lib.hid (specPut _ _ _ (l1.getD k 0) wr hlen ho)
      have C0 := Lib.hid (specHas_any a2 c2 l2 (l1.getD k 0) wr (by omega) (HA2.out.later hb))
      have HT := Lib.hid (mem_filter_take l1 k hlt (fun x => decide (x ∈ l2)))
      have hs := hb.size
      have HB := Lib.hid hb
      by_cases hm : l1.getD k 0 ∈ l2
      · rw [decide_eq_true hm] at C0
        have HT2 := Lib.hid (show puts [] ((l1.take (k + 1)).filter fun x => decide (x ∈ l2)) = put (puts [] ((l1.take k).filter fun x => decide (x ∈ l2))) (l1.getD k 0) by rw [HT.out]; simp only [hm]; simp [puts_snoc])
        have HO := Lib.hid ho
        clear hc hlen ho hb hm HT
        generalize l1.getD k 0 = z at *
        go_wp2_with (first | (go_at_call 57; refine (C0.out).mono ?_; rintro e w1 ⟨rfl, rfl⟩) | (go_at_call 64; refine (C1.out).mono ?_; rintro e w1 ⟨v1, rfl, ho1, hb1⟩))
        go_roundw
        case rel => exact ⟨k + 1, by omega, by go_num, by rw [HT2.out]; exact ho1.mono hs, HB.out.trans (hb1.mono hs)⟩
        case measure => simp [intOf]; omega
      · rw [decide_eq_false hm] at C0
        have HT2 := Lib.hid (show puts [] ((l1.take (k + 1)).filter fun x => decide (x ∈ l2)) = puts [] ((l1.take k).filter fun x => decide (x ∈ l2)) by rw [HT.out]; simp only [hm]; simp [puts_snoc])
        have HO := Lib.hid ho
        clear hc hlen ho hb hm HT
        generalize l1.getD k 0 = z at *
        go_wp2_with (first | (go_at_call 57; refine (C0.out).mono ?_; rintro e w1 ⟨rfl, rfl⟩) | (go_at_call 64; refine (C1.out).mono ?_; rintro e w1 ⟨v1, rfl, ho1, hb1⟩))
        go_roundw
        case rel => exact ⟨k + 1, by omega, by go_num, by rw [HT2.out]; exact HO.out, HB.out⟩
        case measure => simp [intOf]; omega
    · obtain rfl : k = l1.length := by omega
      rw [List.take_length] at ho
      have HO := Lib.hid ho
      have HB := Lib.hid hb
      clear hlt hk ho hb
      go_wp2_with fail
      go_ret
      exact ⟨_, rfl, HO.out, HB.out⟩
theorem specCommonServers (b1 : Nat) (v1 : Value) (l1 : List Int) (b2 : Nat) (v2 : Value) (l2 : List Int) (w : World) (h1 : l1.length ≤ 1048576) (o1 : OwnI b1 w v1 l1) (h2 : l2.length ≤ 1048576) (o2 : OwnI b2 w v2 l2) :
    Calls Try.prog 58 #[v1, v2] w fun e w' => ∃ v, e = .returned v ∧ OwnI w.heap.size w' v (common l1 l2) ∧ Below w.heap.size w w' := by
  obtain ⟨a1, c1, rfl, _, _, at1, _⟩ := o1.form
  obtain ⟨a2, c2, rfl, _, _, at2, _⟩ := o2.form
  exact specCommon_any a1 a2 c1 c2 l1 l2 w h1 h2 at1 at2
set_option maxRecDepth 100000 in
theorem specWithout_any (a1 a2 : Option Addr) (c1 c2 : Nat) (l1 l2 : List Int) (w : World) (h1 : l1.length ≤ 1048576) (h2 : l2.length ≤ 1048576) (ha1 : At w a1 l1) (ha2 : At w a2 l2) :
    Calls Try.prog 66 #[.slice a1 l1.length c1, .slice a2 l2.length c2] w fun e w' => ∃ v, e = .returned v ∧ OwnI w.heap.size w' v (puts [] (l1.filter fun x => decide (x ∉ l2))) ∧ Below w.heap.size w w' := by
  have HA := Lib.hid ha1
  have HA2 := Lib.hid ha2
  clear ha1 ha2
  go_enter Try.func66, Try.ntmps66
  go_wp2_with fail
  go_loopw [5, 6] (fun v i wr => ∃ k : Nat, k ≤ l1.length ∧ i = .int .i64 k ∧ OwnI w.heap.size wr v (puts [] ((l1.take k).filter fun x => decide (x ∉ l2))) ∧ Below w.heap.size w wr) (fun _ i _ => l1.length - (intOf i).toNat)
  case atStart => exact ⟨0, Nat.zero_le _, rfl, World.ownsRow_lit w #[] 0 (Nat.le_refl _) (Nat.zero_le _) rfl, (Below.refl _ _).alloc (Nat.le_refl _) _⟩
  case round =>
    obtain ⟨k, hk, rfl, ho, hb⟩ := hrel
    by_cases hlt : k < l1.length
    · obtain ⟨p, rfl, hp, hc⟩ := HA.out k hlt
      have hc' : wr.cell? (p.add k) = some (.int .i64 (l1.getD k 0)) := (hb.cell (p := p.add k) (by unfold Addr.add; split <;> exact hp)).trans hc
      have hlen : (puts [] ((l1.take k).filter fun x => decide (x ∉ l2))).length ≤ 4194304 := by
        have := puts_length ((l1.take k).filter fun x => decide (x ∉ l2)) []
        have h3 := List.length_filter_le (fun x => decide (x ∉ l2)) (l1.take k)
        rw [List.length_take] at h3; simp only [List.length_nil, Nat.zero_add] at this; omega
      have C1 := Lib.hid (specPut _ _ _ (l1.getD k 0) wr hlen ho)
      have C0 := Lib.hid (specHas_any a2 c2 l2 (l1.getD k 0) wr (by omega) (HA2.out.later hb))
      have HT := Lib.hid (mem_filter_take l1 k hlt (fun x => decide (x ∉ l2)))
      have hs := hb.size
      have HB := Lib.hid hb
      by_cases hm : l1.getD k 0 ∈ l2
      · rw [decide_eq_true hm] at C0
        have HT2 := Lib.hid (show puts [] ((l1.take (k + 1)).filter fun x => decide (x ∉ l2)) = puts [] ((l1.take k).filter fun x => decide (x ∉ l2)) by rw [HT.out]; simp only [hm]; simp [puts_snoc])
        have HO := Lib.hid ho
        clear hc hlen ho hb hm HT
        generalize l1.getD k 0 = z at *
        go_wp2_with (first | (go_at_call 57; refine (C0.out).mono ?_; rintro e w1 ⟨rfl, rfl⟩) | (go_at_call 64; refine (C1.out).mono ?_; rintro e w1 ⟨v1, rfl, ho1, hb1⟩))
        go_roundw
        case rel => exact ⟨k + 1, by omega, by go_num, by rw [HT2.out]; exact HO.out, HB.out⟩
        case measure => simp [intOf]; omega
      · rw [decide_eq_false hm] at C0
        have HT2 := Lib.hid (show puts [] ((l1.take (k + 1)).filter fun x => decide (x ∉ l2)) = put (puts [] ((l1.take k).filter fun x => decide (x ∉ l2))) (l1.getD k 0) by rw [HT.out]; simp only [hm]; simp [puts_snoc])
        have HO := Lib.hid ho
        clear hc hlen ho hb hm HT
        generalize l1.getD k 0 = z at *
        go_wp2_with (first | (go_at_call 57; refine (C0.out).mono ?_; rintro e w1 ⟨rfl, rfl⟩) | (go_at_call 64; refine (C1.out).mono ?_; rintro e w1 ⟨v1, rfl, ho1, hb1⟩))
        go_roundw
        case rel => exact ⟨k + 1, by omega, by go_num, by rw [HT2.out]; exact ho1.mono hs, HB.out.trans (hb1.mono hs)⟩
        case measure => simp [intOf]; omega
    · obtain rfl : k = l1.length := by omega
      rw [List.take_length] at ho
      have HO := Lib.hid ho
      have HB := Lib.hid hb
      clear hlt hk ho hb
      go_wp2_with fail
      go_ret
      exact ⟨_, rfl, HO.out, HB.out⟩
theorem specWithoutServers (b1 : Nat) (v1 : Value) (l1 : List Int) (b2 : Nat) (v2 : Value) (l2 : List Int) (w : World) (h1 : l1.length ≤ 1048576) (o1 : OwnI b1 w v1 l1) (h2 : l2.length ≤ 1048576) (o2 : OwnI b2 w v2 l2) :
    Calls Try.prog 66 #[v1, v2] w fun e w' => ∃ v, e = .returned v ∧ OwnI w.heap.size w' v (without l1 l2) ∧ Below w.heap.size w w' := by
  obtain ⟨a1, c1, rfl, _, _, at1, _⟩ := o1.form
  obtain ⟨a2, c2, rfl, _, _, at2, _⟩ := o2.form
  exact specWithout_any a1 a2 c1 c2 l1 l2 w h1 h2 at1 at2
end Go.Proofs.Ytgjebjoaemeeoaa.kit
