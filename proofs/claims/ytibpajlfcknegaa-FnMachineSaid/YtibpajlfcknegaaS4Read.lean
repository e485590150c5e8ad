/-
  Chapter 4: what spec's and impl's IsValidMachine, ReadObject and SessionOf return at a machine of the caller's own.
-/
import Derived.Test.YtibpajlfcknegaaS4Valid
namespace Go.Proofs.Ytibpajlfcknegaa.kit
open Go.ChangeShapes Go.WideShapes Go.ChangeAt Go.RowKit Go.Sort
set_option linter.unusedVariables false

theorem specIsValidMachine (b1 b2 : Nat) (v1 v2 : Value) (L1 : List Int) (L2 : List Sess) (w : World) (h1 : L1.length ≤ 4194304) (h2 : L2.length ≤ 4194304) (o1 : OwnI b1 w v1 L1) (o2 : OwnS b2 w v2 L2) :
    Calls Try.prog 11 #[.agg #[v1, v2]] w fun e w' => e = .returned (.bool (decide (MOk L1 L2))) ∧ Below w.heap.size w w' := by
  obtain ⟨a1, c1, rfl, _, _, t1, _⟩ := o1.form
  obtain ⟨a2, c2, rfl, _, _, t2, _⟩ := o2.form
  exact specIsValidMachineA a1 c1 L1 a2 c2 L2 w h1 h2 t1 t2
theorem implIsValidMachine (b1 b2 : Nat) (v1 v2 : Value) (L1 : List Int) (L2 : List Sess) (w : World) (h1 : L1.length ≤ 4194304) (h2 : L2.length ≤ 4194304) (o1 : OwnI b1 w v1 L1) (o2 : OwnS b2 w v2 L2) :
    Calls Try.prog 10 #[.agg #[v1, v2]] w fun e w' => e = .returned (.bool (decide (MOk L1 L2))) ∧ Below w.heap.size w w' := by
  obtain ⟨a1, c1, rfl, _, _, t1, _⟩ := o1.form
  obtain ⟨a2, c2, rfl, _, _, t2, _⟩ := o2.form
  exact implIsValidMachineA a1 c1 L1 a2 c2 L2 w h1 h2 t1 t2
theorem specObj (o : Int) (w : World) : Calls Try.prog 41 #[.int .i64 o, .int .i64 0, .int .i64 2] w fun e w' => e = .returned (.bool (okC o)) ∧ w = w' := in_c o 0 2 w
theorem implObj (o : Int) (w : World) : Calls Try.prog 42 #[.int .i64 o] w fun e w' => e = .returned (.bool (okC o)) ∧ w = w' := isObject_c o w
theorem readOk_false {L1 : List Int} {L2 : List Sess} {o : Int} (h : decide (MOk L1 L2) = false ∨ okC o = false) : readOk L1 L2 o = false := by
  unfold readOk
  rcases h with h | h
  · rw [h]; rfl
  · unfold okC at h; rw [h, Bool.and_false]
theorem readOk_true {L1 : List Int} {L2 : List Sess} {o : Int} (h : decide (MOk L1 L2) = true) (h2 : okC o = true) : readOk L1 L2 o = true := by
  unfold readOk; unfold okC at h2; rw [h, h2]; rfl
set_option maxRecDepth 100000 in
set_option maxHeartbeats 4000000 in
theorem specReadObjectA (a1 : Option Addr) (c1 : Nat) (L1 : List Int) (a2 : Option Addr) (c2 : Nat) (L2 : List Sess) (o : Int) (w : World) (h1 : L1.length ≤ 4194304) (h2 : L2.length ≤ 4194304) (ha1 : At w a1 L1) (ha2 : AtS w a2 L2) :
    Calls Try.prog 14 #[.agg #[.slice a1 L1.length c1, .slice a2 L2.length c2], .int .i64 o] w fun e w' => e = .returned (.tuple #[.int .i64 (readO L1 L2 o), .bool (readOk L1 L2 o)]) ∧ Below w.heap.size w w' := by
  have HA1 := Lib.hid ha1
  have HA2 := Lib.hid ha2
  clear ha1 ha2
  obtain ⟨WB, hWB⟩ : ∃ W, W = w.alloc (.cells #[.slice a1 L1.length c1, .slice a2 L2.length c2] 27) := ⟨_, rfl⟩
  have x0 : WB.cell? ⟨w.heap.size, 0, none⟩ = some (.slice a1 L1.length c1) := by rw [hWB, World.cell?_alloc_at _ _ _ _ rfl]; rfl
  have x1 : WB.cell? ⟨w.heap.size, 1, none⟩ = some (.slice a2 L2.length c2) := by rw [hWB, World.cell?_alloc_at _ _ _ _ rfl]; rfl
  have HB := Lib.hid (show Below w.heap.size w WB by rw [hWB]; exact (Below.refl _ _).alloc (Nat.le_refl _) _)
  have hlt : w.heap.size < WB.heap.size := by rw [hWB]; simp
  have HW := Lib.hid hWB
  clear hWB
  have jq := specIsValidMachineA a1 c1 L1 a2 c2 L2 WB h1 h2 (HA1.out.later HB.out) (HA2.out.later HB.out)
  have jo := fun W => specObj o W
  cases hm : decide (MOk L1 L2) with
  | false =>
    rw [hm] at jq
    have HF := Lib.hid (readOk_false (L1 := L1) (L2 := L2) (o := o) (.inl hm))
    have HV := Lib.hid (show readO L1 L2 o = 0 by unfold readO; rw [HF.out]; rfl)
    have JQ := Lib.hid jq
    clear hm jq jo
    go_enter Try.func14, Try.ntmps14
    go_wp2_with fail
    rw [← HW.out]
    refine JQ.out.mono ?_
    rintro e w1 ⟨rfl, hb⟩
    go_wp2_with fail
    go_returns
    exact ⟨by rw [HF.out, HV.out]; rfl, HB.out.trans (hb.mono HB.out.size)⟩
  | true =>
    cases ho : okC o with
    | false =>
      rw [hm] at jq
      have HF := Lib.hid (readOk_false (L1 := L1) (L2 := L2) (o := o) (.inr ho))
      have HV := Lib.hid (show readO L1 L2 o = 0 by unfold readO; rw [HF.out]; rfl)
      rw [ho] at jo
      have JQ := Lib.hid jq
      have JO := fun W => Lib.hid (jo W)
      clear hm jq ho jo
      go_enter Try.func14, Try.ntmps14
      go_wp2_with fail
      rw [← HW.out]
      refine JQ.out.mono ?_
      rintro e w1 ⟨rfl, hb⟩
      have HB2 := Lib.hid (HB.out.trans (hb.mono HB.out.size))
      clear hb
      go_wp2_with fail
      refine (JO _).out.mono ?_
      rintro e w2 ⟨rfl, rfl⟩
      go_wp2_with fail
      go_returns
      exact ⟨by rw [HF.out, HV.out]; rfl, HB2.out⟩
    | true =>
      rw [hm] at jq
      have hr := readOk_true hm ho
      rw [ho] at jo
      have hoo : 0 ≤ o ∧ o ≤ 2 := by unfold okC at ho; exact of_decide_eq_true ho
      obtain ⟨n, rfl⟩ := Int.eq_ofNat_of_zero_le hoo.1
      have hl3 : L1.length = 3 := (of_decide_eq_true hm).1
      have hn : n < L1.length := by omega
      have HV := Lib.hid (show readO L1 L2 (n : Int) = L1.getD n 0 by unfold readO; rw [hr]; rfl)
      have HF := Lib.hid hr
      obtain ⟨x, rfl, hx, hc⟩ := (HA1.out.later HB.out) n hn
      generalize L1.getD n 0 = z at hc HV
      have JQ := Lib.hid jq
      have JO := fun W => Lib.hid (jo W)
      have H3 := Lib.hid hl3
      clear hm jq ho jo hr hoo hl3
      go_enter Try.func14, Try.ntmps14
      go_wp2_with fail
      rw [← HW.out]
      refine JQ.out.mono ?_
      rintro e w1 ⟨rfl, hb⟩
      have HB2 := Lib.hid (HB.out.trans (hb.mono HB.out.size))
      replace x0 := (hb.cell (p := ⟨w.heap.size, 0, none⟩) hlt).trans x0
      have hc1 := (hb.cell (p := x.add n) (by rw [add_block]; exact hx)).trans hc
      clear hb hc
      go_wp2_with fail
      refine (JO _).out.mono ?_
      rintro e w2 ⟨rfl, rfl⟩
      go_wp2_with fail
      go_returns
      exact ⟨by rw [HF.out, HV.out]; rfl, HB2.out⟩
theorem specReadObject (b1 b2 : Nat) (v1 v2 : Value) (L1 : List Int) (L2 : List Sess) (o : Int) (w : World) (h1 : L1.length ≤ 4194304) (h2 : L2.length ≤ 4194304) (o1 : OwnI b1 w v1 L1) (o2 : OwnS b2 w v2 L2) :
    Calls Try.prog 14 #[.agg #[v1, v2], .int .i64 o] w fun e w' => e = .returned (.tuple #[.int .i64 (readO L1 L2 o), .bool (readOk L1 L2 o)]) ∧ Below w.heap.size w w' := by
  obtain ⟨a1, c1, rfl, _, _, t1, _⟩ := o1.form
  obtain ⟨a2, c2, rfl, _, _, t2, _⟩ := o2.form
  exact specReadObjectA a1 c1 L1 a2 c2 L2 o w h1 h2 t1 t2
set_option maxRecDepth 100000 in
set_option maxHeartbeats 4000000 in
theorem implReadObjectA (a1 : Option Addr) (c1 : Nat) (L1 : List Int) (a2 : Option Addr) (c2 : Nat) (L2 : List Sess) (o : Int) (w : World) (h1 : L1.length ≤ 4194304) (h2 : L2.length ≤ 4194304) (ha1 : At w a1 L1) (ha2 : AtS w a2 L2) :
    Calls Try.prog 13 #[.agg #[.slice a1 L1.length c1, .slice a2 L2.length c2], .int .i64 o] w fun e w' => e = .returned (.tuple #[.int .i64 (readO L1 L2 o), .bool (readOk L1 L2 o)]) ∧ Below w.heap.size w w' := by
  have HA1 := Lib.hid ha1
  have HA2 := Lib.hid ha2
  clear ha1 ha2
  obtain ⟨WB, hWB⟩ : ∃ W, W = w.alloc (.cells #[.slice a1 L1.length c1, .slice a2 L2.length c2] 27) := ⟨_, rfl⟩
  have x0 : WB.cell? ⟨w.heap.size, 0, none⟩ = some (.slice a1 L1.length c1) := by rw [hWB, World.cell?_alloc_at _ _ _ _ rfl]; rfl
  have x1 : WB.cell? ⟨w.heap.size, 1, none⟩ = some (.slice a2 L2.length c2) := by rw [hWB, World.cell?_alloc_at _ _ _ _ rfl]; rfl
  have HB := Lib.hid (show Below w.heap.size w WB by rw [hWB]; exact (Below.refl _ _).alloc (Nat.le_refl _) _)
  have hlt : w.heap.size < WB.heap.size := by rw [hWB]; simp
  have HW := Lib.hid hWB
  clear hWB
  have jq := implIsValidMachineA a1 c1 L1 a2 c2 L2 WB h1 h2 (HA1.out.later HB.out) (HA2.out.later HB.out)
  have jo := fun W => implObj o W
  cases hm : decide (MOk L1 L2) with
  | false =>
    rw [hm] at jq
    have HF := Lib.hid (readOk_false (L1 := L1) (L2 := L2) (o := o) (.inl hm))
    have HV := Lib.hid (show readO L1 L2 o = 0 by unfold readO; rw [HF.out]; rfl)
    have JQ := Lib.hid jq
    clear hm jq jo
    go_enter Try.func13, Try.ntmps13
    go_wp2_with fail
    rw [← HW.out]
    refine JQ.out.mono ?_
    rintro e w1 ⟨rfl, hb⟩
    go_wp2_with fail
    go_returns
    exact ⟨by rw [HF.out, HV.out]; rfl, HB.out.trans (hb.mono HB.out.size)⟩
  | true =>
    cases ho : okC o with
    | false =>
      rw [hm] at jq
      have HF := Lib.hid (readOk_false (L1 := L1) (L2 := L2) (o := o) (.inr ho))
      have HV := Lib.hid (show readO L1 L2 o = 0 by unfold readO; rw [HF.out]; rfl)
      rw [ho] at jo
      have JQ := Lib.hid jq
      have JO := fun W => Lib.hid (jo W)
      clear hm jq ho jo
      go_enter Try.func13, Try.ntmps13
      go_wp2_with fail
      rw [← HW.out]
      refine JQ.out.mono ?_
      rintro e w1 ⟨rfl, hb⟩
      have HB2 := Lib.hid (HB.out.trans (hb.mono HB.out.size))
      clear hb
      go_wp2_with fail
      refine (JO _).out.mono ?_
      rintro e w2 ⟨rfl, rfl⟩
      go_wp2_with fail
      go_returns
      exact ⟨by rw [HF.out, HV.out]; rfl, HB2.out⟩
    | true =>
      rw [hm] at jq
      have hr := readOk_true hm ho
      rw [ho] at jo
      have hoo : 0 ≤ o ∧ o ≤ 2 := by unfold okC at ho; exact of_decide_eq_true ho
      obtain ⟨n, rfl⟩ := Int.eq_ofNat_of_zero_le hoo.1
      have hl3 : L1.length = 3 := (of_decide_eq_true hm).1
      have hn : n < L1.length := by omega
      have HV := Lib.hid (show readO L1 L2 (n : Int) = L1.getD n 0 by unfold readO; rw [hr]; rfl)
      have HF := Lib.hid hr
      obtain ⟨x, rfl, hx, hc⟩ := (HA1.out.later HB.out) n hn
      generalize L1.getD n 0 = z at hc HV
      have JQ := Lib.hid jq
      have JO := fun W => Lib.hid (jo W)
      have H3 := Lib.hid hl3
      clear hm jq ho jo hr hoo hl3
      go_enter Try.func13, Try.ntmps13
      go_wp2_with fail
      rw [← HW.out]
      refine JQ.out.mono ?_
      rintro e w1 ⟨rfl, hb⟩
      have HB2 := Lib.hid (HB.out.trans (hb.mono HB.out.size))
      replace x0 := (hb.cell (p := ⟨w.heap.size, 0, none⟩) hlt).trans x0
      have hc1 := (hb.cell (p := x.add n) (by rw [add_block]; exact hx)).trans hc
      clear hb hc
      go_wp2_with fail
      refine (JO _).out.mono ?_
      rintro e w2 ⟨rfl, rfl⟩
      go_wp2_with fail
      go_returns
      exact ⟨by rw [HF.out, HV.out]; rfl, HB2.out⟩
theorem implReadObject (b1 b2 : Nat) (v1 v2 : Value) (L1 : List Int) (L2 : List Sess) (o : Int) (w : World) (h1 : L1.length ≤ 4194304) (h2 : L2.length ≤ 4194304) (o1 : OwnI b1 w v1 L1) (o2 : OwnS b2 w v2 L2) :
    Calls Try.prog 13 #[.agg #[v1, v2], .int .i64 o] w fun e w' => e = .returned (.tuple #[.int .i64 (readO L1 L2 o), .bool (readOk L1 L2 o)]) ∧ Below w.heap.size w w' := by
  obtain ⟨a1, c1, rfl, _, _, t1, _⟩ := o1.form
  obtain ⟨a2, c2, rfl, _, _, t2, _⟩ := o2.form
  exact implReadObjectA a1 c1 L1 a2 c2 L2 o w h1 h2 t1 t2
end Go.Proofs.Ytibpajlfcknegaa.kit
