/-
  Chapter 9: what spec's RacksOf, PickSpare, IsSpread and CountMoves return.
-/
import Derived.Test.YtpdpejlcilnafaaS9Spec
namespace Go.Proofs.Ytpdpejlcilnafaa.kit
open Go.ChangeShapes Go.WideShapes Go.ChangeAt Go.RowKit
set_option linter.unusedVariables false
set_option linter.unusedSimpArgs false

theorem rk_take {L : List Pla} {m : List Int} {k : Nat} (h : k < m.length) : puts [] ((m.take (k + 1)).map (rkP L)) = put (puts [] ((m.take k).map (rkP L))) (rkP L (m.getD k 0)) := by
  rw [take_snocI m k h, List.map_append, List.map_cons, List.map_nil, puts_snoc]
theorem rk_len (L : List Pla) (m : List Int) (k : Nat) : (puts [] ((m.take k).map (rkP L))).length ≤ k := by
  have := puts_length ((m.take k).map (rkP L)) []
  rw [List.length_map, List.length_take, List.length_nil] at this
  omega
set_option maxRecDepth 100000 in
set_option maxHeartbeats 4000000 in
theorem specRacksOfA (a : Option Addr) (cp : Nat) (L : List Pla) (b : Option Addr) (cb : Nat) (m : List Int) (w : World) (hl : L.length ≤ 2097152) (hm : m.length ≤ 4194304) (ha : AtQ w a L) (hb : At w b m) :
    Calls Try.prog 27 #[.slice a L.length cp, .slice b m.length cb] w fun e w' => ∃ v, e = .returned v ∧ OwnI w.heap.size w' v (racksP L m) ∧ Below w.heap.size w w' := by
  have HA := Lib.hid ha
  have HM := Lib.hid hb
  clear ha hb
  go_enter Try.func27, Try.ntmps27
  go_wp2_with fail
  go_loopw [5, 6] (fun v i wr => ∃ k : Nat, k ≤ m.length ∧ i = .int .i64 k ∧ Hid (0 < k → arePl L = true ∧ are m = true) ∧ OwnI w.heap.size wr v (puts [] ((m.take k).map (rkP L))) ∧ Below w.heap.size w wr) (fun _ i _ => m.length - (intOf i).toNat)
  case atStart => exact ⟨0, Nat.zero_le _, rfl, Lib.hid (fun h => absurd h (Nat.lt_irrefl _)), World.ownsRow_lit w #[] 0 (Nat.le_refl _) (Nat.zero_le _) rfl, (Below.refl _ _).alloc (Nat.le_refl _) _⟩
  case round =>
    obtain ⟨k, hk, rfl, HE, ho, hb⟩ := hrel
    have HO := Lib.hid ho
    have HB := Lib.hid hb
    by_cases hlt : k < m.length
    · have j1 := specArePlacesA a cp L wr hl (HA.out.later hb)
      have j2 := specAre_any b cb m wr hm (HM.out.later hb)
      cases h1 : arePl L with
      | false =>
        rw [h1] at j1
        have J1 := Lib.hid j1; have J2 := Lib.hid j2
        have hk0 : k = 0 := by
          rcases Nat.eq_zero_or_pos k with h | h
          · exact h
          · rw [(HE.out h).1] at h1; cases h1
        have HF := Lib.hid (show puts [] ((m.take k).map (rkP L)) = racksP L m by rw [hk0, racksP_no (by simp [h1])]; rfl)
        clear h1 j1 j2 hk0 ho hb
        go_wp2_with (go_at_call 16; with_reducible refine (J1.out).mono ?_; rintro e w1 ⟨rfl, rfl⟩)
        go_ret
        exact ⟨_, rfl, by rw [← HF.out]; exact HO.out, HB.out⟩
      | true =>
        rw [h1] at j1
        cases h2 : are m with
        | false =>
          rw [h2] at j2
          have J1 := Lib.hid j1; have J2 := Lib.hid j2
          have hk0 : k = 0 := by
            rcases Nat.eq_zero_or_pos k with h | h
            · exact h
            · rw [(HE.out h).2] at h2; cases h2
          have HF := Lib.hid (show puts [] ((m.take k).map (rkP L)) = racksP L m by rw [hk0, racksP_no (by simp [h2])]; rfl)
          clear h1 h2 j1 j2 hk0 ho hb
          go_wp2_with (first | (go_at_call 16; with_reducible refine (J1.out).mono ?_; rintro e w1 ⟨rfl, rfl⟩) | (go_at_call 17; with_reducible refine (J2.out).mono ?_; rintro e w2 ⟨rfl, hd2⟩))
          go_ret
          exact ⟨_, rfl, by rw [← HF.out]; exact HO.out.later (hd2.below _), HB.out.trans (hd2.below _)⟩
        | true =>
          rw [h2] at j2
          have hin := are_lt h2 k hlt
          obtain ⟨x, rfl, hx, hcx⟩ := HM.out k hlt
          have hcx' : wr.cell? (x.add k) = some (.int .i64 (m.getD k 0)) := (hb.cell (p := x.add k) (by unfold Addr.add; split <;> exact hx)).trans hcx
          obtain ⟨i, hi⟩ := Int.eq_ofNat_of_zero_le (show 0 ≤ m.getD k 0 by omega)
          have hlen := arePl_len h1
          obtain ⟨g, o, rfl, hg, hc⟩ := HA.out.at (k := i) (by omega)
          have c0 := (hc.below hb hg).c0
          have HP := Lib.hid (show puts [] ((m.take (k + 1)).map (rkP L)) = put (puts [] ((m.take k).map (rkP L))) (gQ L i).r by rw [rk_take hlt, hi]; unfold rkP; rw [Int.toNat_natCast])
          have hpl := rk_len L m k
          have J1 := Lib.hid j1; have J2 := Lib.hid j2
          rw [hi] at hcx'
          have i1 : i < L.length := by omega
          have i2 : (i : Int) < (L.length : Int) := by omega
          generalize (gQ L i).r = z at *
          obtain ⟨P, hP⟩ : ∃ P, P = puts [] ((m.take k).map (rkP L)) := ⟨_, rfl⟩
          rw [← hP] at HP HO hpl
          have hs := hb.size
          have C2 := Lib.hid (fun W (hd : Drawn wr W) (v0 : Value) (hv : OwnI w.heap.size wr v0 P) => specPut w.heap.size v0 P z W (by omega) (hv.later (hd.below _)))
          clear h1 h2 j1 j2 ho hcx hi hin hlen hc HE hP hpl
          go_wp2_with (first | (go_at_call 16; with_reducible refine (J1.out).mono ?_; rintro e w1 ⟨rfl, rfl⟩) | (go_at_call 17; with_reducible refine (J2.out).mono ?_; rintro e w2 ⟨rfl, hd2⟩; have hcx2 := hd2.cell hcx'; have c02 := hd2.cell c0) | (go_at_call 50; with_reducible refine (C2.out _ hd2 _ HO.out).mono ?_; rintro e w3 ⟨v3, rfl, ho3, hb3⟩))
          go_roundw
          case rel => exact ⟨k + 1, by omega, by go_num, Lib.hid (fun _ => ⟨trivial, trivial⟩), by rw [HP.out]; exact ho3.mono (Nat.le_trans hs (hd2.below wr.heap.size).size), HB.out.trans ((hd2.below _).trans (hb3.mono (Nat.le_trans hs (hd2.below wr.heap.size).size)))⟩
          case measure => simp [intOf]; omega
    · have hkm : k = m.length := by omega
      have HF := Lib.hid (show puts [] ((m.take k).map (rkP L)) = racksP L m by
        rw [hkm, List.take_length]
        rcases Nat.eq_zero_or_pos k with h | h
        · have : m = [] := List.eq_nil_of_length_eq_zero (by omega)
          subst this
          unfold racksP
          split <;> rfl
        · exact (racksP_yes (HE.out h)).symm)
      clear ho hb hkm
      go_wp2_with fail
      go_ret
      exact ⟨_, rfl, by rw [← HF.out]; exact HO.out, HB.out⟩
theorem specRacksOf (b1 : Nat) (v1 : Value) (L : List Pla) (b2 : Nat) (v2 : Value) (m : List Int) (w : World) (h1 : L.length ≤ 2097152) (o1 : OwnQ b1 w v1 L) (h2 : m.length ≤ 4194304) (o2 : OwnI b2 w v2 m) :
    Calls Try.prog 27 #[v1, v2] w fun e w' => ∃ v, e = .returned v ∧ OwnI w.heap.size w' v (racksP L m) ∧ Below w.heap.size w w' := by
  obtain ⟨a1, c1, rfl, _, _, at1, _⟩ := o1.form
  obtain ⟨a2, c2, rfl, _, _, at2, _⟩ := o2.form
  exact specRacksOfA a1 c1 L a2 c2 m w h1 h2 at1 at2
set_option maxRecDepth 100000 in
theorem specCountMoves (b1 : Nat) (v1 : Value) (l1 : List Int) (b2 : Nat) (v2 : Value) (l2 : List Int) (w : World) (h1 : l1.length ≤ 1048576) (o1 : OwnI b1 w v1 l1) (h2 : l2.length ≤ 1048576) (o2 : OwnI b2 w v2 l2) :
    Calls Try.prog 40 #[v1, v2] w fun e w' => e = .returned (.int .i64 ((without l2 l1).length : Int)) ∧ Below w.heap.size w w' := by
  have J := Lib.hid (specWithoutServers b2 v2 l2 b1 v1 l1 w h2 o2 h1 o1)
  clear o1 o2
  go_enter Try.func40, Try.ntmps40
  go_wp2_with (go_at_call 19; with_reducible refine (J.out).mono ?_; rintro e w1 ⟨v, rfl, ho, hb⟩; obtain ⟨y, q, rfl⟩ := ho.shape)
  go_ret
  exact ⟨rfl, hb⟩
end Go.Proofs.Ytpdpejlcilnafaa.kit
