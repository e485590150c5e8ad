/-
  Chapter 5: what spec's and impl's CommonPrefix and IsPrefix return.
-/
import Derived.Test.YtbnepdecfnhgoaaS5Plain
import Derived.Laws.StructEq
import Derived.BigQuiet
namespace Go.Proofs.Ytbnepdecfnhgoaa.kit
open Go.ChangeShapes Go.WideShapes Go.ChangeAt Go.RowKit
set_option linter.unusedVariables false

set_option maxRecDepth 100000 in
set_option maxHeartbeats 4000000 in
theorem eqlEnt (x y : Ent) (W : World) : Sem.run Try.prog (binOp .eql 56 (entV x) (entV y)) W = .ok (.bool (decide (x = y))) W := by
  obtain ⟨e, c, s, k, o, d, v⟩ := x
  obtain ⟨e', c', s', k', o', d', v'⟩ := y
  unfold entV
  simp only
  have u3 := Try.underlying3
  have hS : Try.prog.underlying 56 = some (.struct (Try.prog.fieldsOf 56)) := by kernel_rfl
  have hp : Try.prog.stoodInHeld 56 = false := by kernel_rfl
  have hS2 : Try.prog.underlying 29 = some (.struct (Try.prog.fieldsOf 29)) := by kernel_rfl
  have hp2 : Try.prog.stoodInHeld 29 = false := by kernel_rfl
  rw [run_eql_struct, show (10000 : Nat) = 9999 + 1 from rfl, run_equalIn_agg W 9999 56 _ _ hS hp]
  have he := fun (d : Nat) (w : World) (xs ys : Array Value) => run_equalIn_agg w d 29 xs ys hS2 hp2
  simp only [Program.fieldsOf, Try.underlying56, Try.underlying29] at he ⊢
  clear hS hS2 hp hp2
  have k3 := Try.isAgg3
  go_simp
  by_cases h0 : e = e' <;> simp [h0]
  by_cases h1 : c = c' <;> simp [h1]
  by_cases h2 : s = s' <;> simp [h2]
  by_cases h3 : k = k' <;> simp [h3]
  by_cases h4 : o = o' <;> simp [h4]
  by_cases h5 : d = d' <;> simp [h5]
  by_cases h6 : v = v' <;> simp [h6]
set_option maxRecDepth 100000 in
set_option maxHeartbeats 4000000 in
theorem specCommonPrefixA (a1 a2 : Option Addr) (c1 c2 : Nat) (l1 l2 : List Ent) (w : World) (h1 : l1.length ≤ 2097152) (h2 : l2.length ≤ 2097152) (ha1 : AtE w a1 l1) (ha2 : AtE w a2 l2) :
    Calls Try.prog 21 #[.slice a1 l1.length c1, .slice a2 l2.length c2] w fun e w' => e = .returned (.int .i64 (comPre l1 l2 : Nat)) ∧ Drawn w w' := by
  have HA1 := Lib.hid ha1
  have HA2 := Lib.hid ha2
  clear ha1 ha2
  go_enter Try.func21, Try.ntmps21
  go_wp2_with fail
  go_loopw [5] (fun i wr => ∃ k : Nat, k ≤ l1.length ∧ k ≤ l2.length ∧ i = .int .i64 k ∧ Hid (∀ j, j < k → gE l1 j = gE l2 j) ∧ Hid (Drawn w wr)) (fun i _ => l1.length - (intOf i).toNat)
  case atStart => exact ⟨0, Nat.zero_le _, Nat.zero_le _, rfl, Lib.hid (fun j h => by omega), Lib.hid (Drawn.refl _)⟩
  case round =>
    obtain ⟨k, hk, hk2, rfl, HE, HQ⟩ := hrel
    by_cases hlt : k < l1.length
    · by_cases hlt2 : k < l2.length
      · skip
        obtain ⟨g, o, rfl, hg, hq1⟩ := HA1.out k hlt
        obtain ⟨q, HQ3⟩ : ∃ q, Hid (wr = w.drewN q) := by obtain ⟨q, e⟩ := HQ.out; exact ⟨q, Lib.hid e⟩
        obtain ⟨c0, c1', c2', c3, c4, c5, c6⟩ : EntAt wr g (o + k * 7) (gE l1 k) := by rw [HQ3.out]; exact hq1.drewN q
        obtain ⟨g', o', rfl, hg', hq2⟩ := HA2.out k hlt2
        obtain ⟨d0, d1, d2, d3, d4, d5, d6⟩ : EntAt wr g' (o' + k * 7) (gE l2 k) := by rw [HQ3.out]; exact hq2.drewN q
        have heq := fun W => eqlEnt (gE l1 k) (gE l2 k) W
        clear hq1 hq2 HQ3
        unfold entV at heq
        obtain ⟨x0, x1, x2, x3, x4, x5, x6, hx⟩ : ∃ a b c d e f g, gE l1 k = ⟨a, b, c, d, e, f, g⟩ := ⟨_, _, _, _, _, _, _, rfl⟩
        obtain ⟨y0, y1, y2, y3, y4, y5, y6, hy⟩ : ∃ a b c d e f g, gE l2 k = ⟨a, b, c, d, e, f, g⟩ := ⟨_, _, _, _, _, _, _, rfl⟩
        have k3 : (0 : Int) ≤ (k : Int) := by omega
        have k5 : (k : Int) < (l1.length : Int) := by omega
        have k6 : (k : Int) < (l2.length : Int) := by omega
        have t1 : decide ((k : Int) < (l1.length : Int)) = true := decide_eq_true k5
        have t2 : decide ((k : Int) < (l2.length : Int)) = true := decide_eq_true k6
        by_cases hz : gE l1 k = gE l2 k
        · have HE2 := Lib.hid (show ∀ j, j < k + 1 → gE l1 j = gE l2 j from fun j hj => by
            by_cases e : j = k
            · rw [e]; exact hz
            · exact HE.out j (by omega))
          rw [decide_eq_true hz] at heq
          rw [hx] at c0 c1' c2' c3 c4 c5 c6 heq
          rw [hy] at d0 d1 d2 d3 d4 d5 d6 heq
          simp only at c0 c1' c2' c3 c4 c5 c6 d0 d1 d2 d3 d4 d5 d6 heq
          clear hz hx hy
          go_wp2_with fail
          go_quiet (fail)
          go_wp2_with fail
          go_roundw
          case rel => exact ⟨k + 1, by omega, by omega, by go_num, HE2, Lib.hid (HQ.out.more _)⟩
          case measure => simp [intOf]; omega
        · have HF := Lib.hid (comPre_of l1 l2 k hk hk2 HE.out (fun _ _ => hz))
          rw [decide_eq_false hz] at heq
          rw [hx] at c0 c1' c2' c3 c4 c5 c6 heq
          rw [hy] at d0 d1 d2 d3 d4 d5 d6 heq
          simp only at c0 c1' c2' c3 c4 c5 c6 d0 d1 d2 d3 d4 d5 d6 heq
          clear hz hx hy
          go_wp2_with fail
          go_quiet (fail)
          go_wp2_with fail
          go_ret
          exact ⟨by rw [HF.out]; rfl, HQ.out.more _⟩
      · have HF := Lib.hid (comPre_of l1 l2 k hk hk2 HE.out (fun _ h => absurd h hlt2))
        have t1 : decide ((k : Int) < (l1.length : Int)) = true := decide_eq_true (by omega)
        have t2 : decide ((k : Int) < (l2.length : Int)) = false := decide_eq_false (by omega)
        go_wp2_with fail
        go_quiet (fail)
        go_wp2_with fail
        go_ret
        exact ⟨by rw [HF.out]; rfl, HQ.out.more _⟩
    · have HF := Lib.hid (comPre_of l1 l2 k hk hk2 HE.out (fun h => absurd h hlt))
      have t1 : decide ((k : Int) < (l1.length : Int)) = false := decide_eq_false (by omega)
      go_wp2_with fail
      go_quiet (fail)
      go_wp2_with fail
      go_ret
      exact ⟨by rw [HF.out]; rfl, HQ.out.more _⟩
theorem specCommonPrefix (b1 : Nat) (v1 : Value) (l1 : List Ent) (b2 : Nat) (v2 : Value) (l2 : List Ent) (w : World) (h1 : l1.length ≤ 2097152) (o1 : OwnE b1 w v1 l1) (h2 : l2.length ≤ 2097152) (o2 : OwnE b2 w v2 l2) :
    Calls Try.prog 21 #[v1, v2] w fun e w' => e = .returned (.int .i64 (comPre l1 l2 : Nat)) ∧ Below w.heap.size w w' := by
  obtain ⟨a1, c1, rfl, _, _, t1, _⟩ := o1.form
  obtain ⟨a2, c2, rfl, _, _, t2, _⟩ := o2.form
  exact (specCommonPrefixA a1 a2 c1 c2 l1 l2 w h1 h2 t1 t2).mono fun _ _ ⟨h, d⟩ => ⟨h, d.below _⟩
set_option maxRecDepth 100000 in
set_option maxHeartbeats 4000000 in
theorem implCommonPrefixA (a1 a2 : Option Addr) (c1 c2 : Nat) (l1 l2 : List Ent) (w : World) (h1 : l1.length ≤ 2097152) (h2 : l2.length ≤ 2097152) (ha1 : AtE w a1 l1) (ha2 : AtE w a2 l2) :
    Calls Try.prog 20 #[.slice a1 l1.length c1, .slice a2 l2.length c2] w fun e w' => e = .returned (.int .i64 (comPre l1 l2 : Nat)) ∧ Drawn w w' := by
  have HA1 := Lib.hid ha1
  have HA2 := Lib.hid ha2
  clear ha1 ha2
  go_enter Try.func20, Try.ntmps20
  go_wp2_with fail
  go_loopw [5] (fun i wr => ∃ k : Nat, k ≤ l1.length ∧ k ≤ l2.length ∧ i = .int .i64 k ∧ Hid (∀ j, j < k → gE l1 j = gE l2 j) ∧ Hid (Drawn w wr)) (fun i _ => l1.length - (intOf i).toNat)
  case atStart => exact ⟨0, Nat.zero_le _, Nat.zero_le _, rfl, Lib.hid (fun j h => by omega), Lib.hid (Drawn.refl _)⟩
  case round =>
    obtain ⟨k, hk, hk2, rfl, HE, HQ⟩ := hrel
    by_cases hlt : k < l1.length
    · by_cases hlt2 : k < l2.length
      · skip
        obtain ⟨g, o, rfl, hg, hq1⟩ := HA1.out k hlt
        obtain ⟨q, HQ3⟩ : ∃ q, Hid (wr = w.drewN q) := by obtain ⟨q, e⟩ := HQ.out; exact ⟨q, Lib.hid e⟩
        obtain ⟨c0, c1', c2', c3, c4, c5, c6⟩ : EntAt wr g (o + k * 7) (gE l1 k) := by rw [HQ3.out]; exact hq1.drewN q
        obtain ⟨g', o', rfl, hg', hq2⟩ := HA2.out k hlt2
        obtain ⟨d0, d1, d2, d3, d4, d5, d6⟩ : EntAt wr g' (o' + k * 7) (gE l2 k) := by rw [HQ3.out]; exact hq2.drewN q
        have heq := fun W => eqlEnt (gE l1 k) (gE l2 k) W
        clear hq1 hq2 HQ3
        unfold entV at heq
        obtain ⟨x0, x1, x2, x3, x4, x5, x6, hx⟩ : ∃ a b c d e f g, gE l1 k = ⟨a, b, c, d, e, f, g⟩ := ⟨_, _, _, _, _, _, _, rfl⟩
        obtain ⟨y0, y1, y2, y3, y4, y5, y6, hy⟩ : ∃ a b c d e f g, gE l2 k = ⟨a, b, c, d, e, f, g⟩ := ⟨_, _, _, _, _, _, _, rfl⟩
        have k3 : (0 : Int) ≤ (k : Int) := by omega
        have k5 : (k : Int) < (l1.length : Int) := by omega
        have k6 : (k : Int) < (l2.length : Int) := by omega
        have t1 : decide ((k : Int) < (l1.length : Int)) = true := decide_eq_true k5
        have t2 : decide ((k : Int) < (l2.length : Int)) = true := decide_eq_true k6
        by_cases hz : gE l1 k = gE l2 k
        · have HE2 := Lib.hid (show ∀ j, j < k + 1 → gE l1 j = gE l2 j from fun j hj => by
            by_cases e : j = k
            · rw [e]; exact hz
            · exact HE.out j (by omega))
          rw [decide_eq_true hz] at heq
          rw [hx] at c0 c1' c2' c3 c4 c5 c6 heq
          rw [hy] at d0 d1 d2 d3 d4 d5 d6 heq
          simp only at c0 c1' c2' c3 c4 c5 c6 d0 d1 d2 d3 d4 d5 d6 heq
          clear hz hx hy
          go_wp2_with fail
          go_quiet (fail)
          go_wp2_with fail
          go_roundw
          case rel => exact ⟨k + 1, by omega, by omega, by go_num, HE2, Lib.hid (HQ.out.more _)⟩
          case measure => simp [intOf]; omega
        · have HF := Lib.hid (comPre_of l1 l2 k hk hk2 HE.out (fun _ _ => hz))
          rw [decide_eq_false hz] at heq
          rw [hx] at c0 c1' c2' c3 c4 c5 c6 heq
          rw [hy] at d0 d1 d2 d3 d4 d5 d6 heq
          simp only at c0 c1' c2' c3 c4 c5 c6 d0 d1 d2 d3 d4 d5 d6 heq
          clear hz hx hy
          go_wp2_with fail
          go_quiet (fail)
          go_wp2_with fail
          go_ret
          exact ⟨by rw [HF.out]; rfl, HQ.out.more _⟩
      · have HF := Lib.hid (comPre_of l1 l2 k hk hk2 HE.out (fun _ h => absurd h hlt2))
        have t1 : decide ((k : Int) < (l1.length : Int)) = true := decide_eq_true (by omega)
        have t2 : decide ((k : Int) < (l2.length : Int)) = false := decide_eq_false (by omega)
        go_wp2_with fail
        go_quiet (fail)
        go_wp2_with fail
        go_ret
        exact ⟨by rw [HF.out]; rfl, HQ.out.more _⟩
    · have HF := Lib.hid (comPre_of l1 l2 k hk hk2 HE.out (fun h => absurd h hlt))
      have t1 : decide ((k : Int) < (l1.length : Int)) = false := decide_eq_false (by omega)
      go_wp2_with fail
      go_quiet (fail)
      go_wp2_with fail
      go_ret
      exact ⟨by rw [HF.out]; rfl, HQ.out.more _⟩
theorem implCommonPrefix (b1 : Nat) (v1 : Value) (l1 : List Ent) (b2 : Nat) (v2 : Value) (l2 : List Ent) (w : World) (h1 : l1.length ≤ 2097152) (o1 : OwnE b1 w v1 l1) (h2 : l2.length ≤ 2097152) (o2 : OwnE b2 w v2 l2) :
    Calls Try.prog 20 #[v1, v2] w fun e w' => e = .returned (.int .i64 (comPre l1 l2 : Nat)) ∧ Below w.heap.size w w' := by
  obtain ⟨a1, c1, rfl, _, _, t1, _⟩ := o1.form
  obtain ⟨a2, c2, rfl, _, _, t2, _⟩ := o2.form
  exact (implCommonPrefixA a1 a2 c1 c2 l1 l2 w h1 h2 t1 t2).mono fun _ _ ⟨h, d⟩ => ⟨h, d.below _⟩
set_option maxRecDepth 100000 in
theorem implIsPrefixA (a1 a2 : Option Addr) (c1 c2 : Nat) (l1 l2 : List Ent) (w : World) (h1 : l1.length ≤ 2097152) (h2 : l2.length ≤ 2097152) (ha1 : AtE w a1 l1) (ha2 : AtE w a2 l2) :
    Calls Try.prog 22 #[.slice a1 l1.length c1, .slice a2 l2.length c2] w fun e w' => e = .returned (.bool (isPre l1 l2)) ∧ Drawn w w' := by
  have J := Lib.hid (implCommonPrefixA a1 a2 c1 c2 l1 l2 w h1 h2 ha1 ha2)
  have hb := comPre_le l1 l2
  unfold isPre
  generalize comPre l1 l2 = n at *
  clear ha1 ha2
  by_cases h : n = l1.length
  · rw [decide_eq_true h]
    have t1 : ((n : Int) == (l1.length : Int)) = true := by rw [beq_iff_eq]; omega
    clear h
    go_enter Try.func22, Try.ntmps22
    go_wp2_with fail
    refine J.out.mono ?_
    rintro e w1 ⟨rfl, q, rfl⟩
    go_wp2_with fail
    go_ret
    exact ⟨rfl, _, rfl⟩
  · rw [decide_eq_false h]
    have t1 : ((n : Int) == (l1.length : Int)) = false := by rw [beq_eq_false_iff_ne]; omega
    clear h
    go_enter Try.func22, Try.ntmps22
    go_wp2_with fail
    refine J.out.mono ?_
    rintro e w1 ⟨rfl, q, rfl⟩
    go_wp2_with fail
    go_ret
    exact ⟨rfl, _, rfl⟩
theorem implIsPrefix (b1 : Nat) (v1 : Value) (l1 : List Ent) (b2 : Nat) (v2 : Value) (l2 : List Ent) (w : World) (h1 : l1.length ≤ 2097152) (o1 : OwnE b1 w v1 l1) (h2 : l2.length ≤ 2097152) (o2 : OwnE b2 w v2 l2) :
    Calls Try.prog 22 #[v1, v2] w fun e w' => e = .returned (.bool (isPre l1 l2)) ∧ Below w.heap.size w w' := by
  obtain ⟨a1, c1, rfl, _, _, t1, _⟩ := o1.form
  obtain ⟨a2, c2, rfl, _, _, t2, _⟩ := o2.form
  exact (implIsPrefixA a1 a2 c1 c2 l1 l2 w h1 h2 t1 t2).mono fun _ _ ⟨h, d⟩ => ⟨h, d.below _⟩
end Go.Proofs.Ytbnepdecfnhgoaa.kit
