/-
  Chapter 3, operations: what impl's IsValidOp returns, for every six ints; the kinds behind an interface.
-/
import Derived.Test.YtgjebjoaemeeoaaGreatDoorS3Plain
namespace Go.Proofs.YtgjebjoaemeeoaaGreatDoor.kit
open Go.ChangeShapes Go.WideShapes Go.ChangeAt Go.RowKit
set_option linter.unusedVariables false

theorem isClient_c (x : Int) (w : World) : Calls Tryz.prog 66 #[.int .i64 x] w fun e w' => e = .returned (.bool (okC x)) ∧ w = w' := by
  unfold okC
  by_cases h1 : 0 ≤ x
  · by_cases h2 : x < 3
    · rw [decide_eq_true (by omega : 0 ≤ x ∧ x ≤ 2)]
      have f1 : decide (0 ≤ x) = true := decide_eq_true h1
      have f2 : decide (x < 3) = true := decide_eq_true h2
      clear h1 h2
      go_enter Tryz.func66, Tryz.ntmps66
      go_wp2_with fail
      go_returns
      exact ⟨rfl, rfl⟩
    · rw [decide_eq_false (by omega : ¬ (0 ≤ x ∧ x ≤ 2))]
      have f1 : decide (0 ≤ x) = true := decide_eq_true h1
      have f2 : decide (x < 3) = false := decide_eq_false h2
      clear h1 h2
      go_enter Tryz.func66, Tryz.ntmps66
      go_wp2_with fail
      go_returns
      exact ⟨rfl, rfl⟩
  · rw [decide_eq_false (by omega : ¬ (0 ≤ x ∧ x ≤ 2))]
    have f1 : decide (0 ≤ x) = false := decide_eq_false h1
    clear h1
    go_enter Tryz.func66, Tryz.ntmps66
    go_wp2_with fail
    go_returns
    exact ⟨rfl, rfl⟩
theorem isObject_c (x : Int) (w : World) : Calls Tryz.prog 159 #[.int .i64 x] w fun e w' => e = .returned (.bool (okC x)) ∧ w = w' := by
  unfold okC
  by_cases h1 : 0 ≤ x
  · by_cases h2 : x < 3
    · rw [decide_eq_true (by omega : 0 ≤ x ∧ x ≤ 2)]
      have f1 : decide (0 ≤ x) = true := decide_eq_true h1
      have f2 : decide (x < 3) = true := decide_eq_true h2
      clear h1 h2
      go_enter Tryz.func159, Tryz.ntmps159
      go_wp2_with fail
      go_returns
      exact ⟨rfl, rfl⟩
    · rw [decide_eq_false (by omega : ¬ (0 ≤ x ∧ x ≤ 2))]
      have f1 : decide (0 ≤ x) = true := decide_eq_true h1
      have f2 : decide (x < 3) = false := decide_eq_false h2
      clear h1 h2
      go_enter Tryz.func159, Tryz.ntmps159
      go_wp2_with fail
      go_returns
      exact ⟨rfl, rfl⟩
  · rw [decide_eq_false (by omega : ¬ (0 ≤ x ∧ x ≤ 2))]
    have f1 : decide (0 ≤ x) = false := decide_eq_false h1
    clear h1
    go_enter Tryz.func159, Tryz.ntmps159
    go_wp2_with fail
    go_returns
    exact ⟨rfl, rfl⟩
theorem isSeq_c (x : Int) (w : World) : Calls Tryz.prog 67 #[.int .i64 x] w fun e w' => e = .returned (.bool (okS x)) ∧ w = w' := by
  unfold okS
  by_cases h1 : 1 ≤ x
  · by_cases h2 : x ≤ 99
    · rw [decide_eq_true (by omega : 1 ≤ x ∧ x ≤ 99)]
      have f1 : decide (1 ≤ x) = true := decide_eq_true h1
      have f2 : decide (x ≤ 99) = true := decide_eq_true h2
      clear h1 h2
      go_enter Tryz.func67, Tryz.ntmps67
      go_wp2_with fail
      go_returns
      exact ⟨rfl, rfl⟩
    · rw [decide_eq_false (by omega : ¬ (1 ≤ x ∧ x ≤ 99))]
      have f1 : decide (1 ≤ x) = true := decide_eq_true h1
      have f2 : decide (x ≤ 99) = false := decide_eq_false h2
      clear h1 h2
      go_enter Tryz.func67, Tryz.ntmps67
      go_wp2_with fail
      go_returns
      exact ⟨rfl, rfl⟩
  · rw [decide_eq_false (by omega : ¬ (1 ≤ x ∧ x ≤ 99))]
    have f1 : decide (1 ≤ x) = false := decide_eq_false h1
    clear h1
    go_enter Tryz.func67, Tryz.ntmps67
    go_wp2_with fail
    go_returns
    exact ⟨rfl, rfl⟩
theorem isValue_c (x : Int) (w : World) : Calls Tryz.prog 84 #[.int .i64 x] w fun e w' => e = .returned (.bool (okV x)) ∧ w = w' := by
  unfold okV
  by_cases h1 : 0 ≤ x
  · by_cases h2 : x ≤ 9
    · rw [decide_eq_true (by omega : 0 ≤ x ∧ x ≤ 9)]
      have f1 : decide (0 ≤ x) = true := decide_eq_true h1
      have f2 : decide (x ≤ 9) = true := decide_eq_true h2
      clear h1 h2
      go_enter Tryz.func84, Tryz.ntmps84
      go_wp2_with fail
      go_returns
      exact ⟨rfl, rfl⟩
    · rw [decide_eq_false (by omega : ¬ (0 ≤ x ∧ x ≤ 9))]
      have f1 : decide (0 ≤ x) = true := decide_eq_true h1
      have f2 : decide (x ≤ 9) = false := decide_eq_false h2
      clear h1 h2
      go_enter Tryz.func84, Tryz.ntmps84
      go_wp2_with fail
      go_returns
      exact ⟨rfl, rfl⟩
  · rw [decide_eq_false (by omega : ¬ (0 ≤ x ∧ x ≤ 9))]
    have f1 : decide (0 ≤ x) = false := decide_eq_false h1
    clear h1
    go_enter Tryz.func84, Tryz.ntmps84
    go_wp2_with fail
    go_returns
    exact ⟨rfl, rfl⟩

set_option maxRecDepth 100000 in
theorem act_write (c s o v : Int) (w : World) : Calls Tryz.prog 30 #[opV c s 1 o 0 v] w fun e w' => e = .returned (.tuple #[.iface 116 (.agg #[.int .i64 o, .int .i64 v]), .bool true]) ∧ Below w.heap.size w w' := by
  unfold opV
  go_enter Tryz.func30, Tryz.ntmps30
  go_wp2_with fail
  go_returns
  exact ⟨rfl, by go_grown⟩
set_option maxRecDepth 100000 in
theorem act_swap (c s o d v : Int) (w : World) : Calls Tryz.prog 30 #[opV c s 2 o d v] w fun e w' => e = .returned (.tuple #[.iface 118 (.agg #[.int .i64 o, .int .i64 d, .int .i64 v]), .bool true]) ∧ Below w.heap.size w w' := by
  unfold opV
  go_enter Tryz.func30, Tryz.ntmps30
  go_wp2_with fail
  go_returns
  exact ⟨rfl, by go_grown⟩
set_option maxRecDepth 100000 in
theorem act_none1 (c s o d v : Int) (w : World) (h : (d == 0) = false) : Calls Tryz.prog 30 #[opV c s 1 o d v] w fun e w' => e = .returned (.tuple #[.nilIface, .bool false]) ∧ Below w.heap.size w w' := by
  unfold opV
  go_enter Tryz.func30, Tryz.ntmps30
  go_wp2_with fail
  go_returns
  exact ⟨rfl, by go_grown⟩
set_option maxRecDepth 100000 in
theorem act_none (c s k o d v : Int) (w : World) (h1 : (k == 1) = false) (h2 : (k == 2) = false) : Calls Tryz.prog 30 #[opV c s k o d v] w fun e w' => e = .returned (.tuple #[.nilIface, .bool false]) ∧ Below w.heap.size w w' := by
  unfold opV
  go_enter Tryz.func30, Tryz.ntmps30
  go_wp2_with fail
  go_returns
  exact ⟨rfl, by go_grown⟩
set_option maxRecDepth 100000 in
theorem writeValid (o v : Int) (w : World) : Calls Tryz.prog 157 #[.agg #[.int .i64 o, .int .i64 v]] w fun e w' => e = .returned (.bool (okC o && okV v)) ∧ Below w.heap.size w w' := by
  generalize ho : okC o = bo
  generalize hv : okV v = bv
  have Ho := Lib.hid ho
  have Hv := Lib.hid hv
  clear ho hv
  cases bo
  · go_enter Tryz.func157, Tryz.ntmps157
    go_wp2_with (go_at_call 159; refine (isObject_c _ _).mono ?_; rintro e w1 ⟨he, rfl⟩; rw [Ho.out] at he; subst he)
    go_returns
    exact ⟨rfl, by go_grown⟩
  · go_enter Tryz.func157, Tryz.ntmps157
    go_wp2_with (first | (go_at_call 159; refine (isObject_c _ _).mono ?_; rintro e w1 ⟨he, rfl⟩; rw [Ho.out] at he; subst he) | (go_at_call 84; refine (isValue_c _ _).mono ?_; rintro e w1 ⟨he, rfl⟩; rw [Hv.out] at he; subst he))
    go_returns
    exact ⟨rfl, by go_grown⟩
set_option maxRecDepth 100000 in
theorem swapValid (o d v : Int) (w : World) : Calls Tryz.prog 161 #[.agg #[.int .i64 o, .int .i64 d, .int .i64 v]] w fun e w' => e = .returned (.bool (okC o && okV v && okV d)) ∧ Below w.heap.size w w' := by
  generalize ho : okC o = bo
  generalize hv : okV v = bv
  generalize hd : okV d = bd
  have Ho := Lib.hid ho
  have Hv := Lib.hid hv
  have Hd := Lib.hid hd
  clear ho hv hd
  cases bo
  · go_enter Tryz.func161, Tryz.ntmps161
    go_wp2_with (go_at_call 159; refine (isObject_c _ _).mono ?_; rintro e w1 ⟨he, rfl⟩; rw [Ho.out] at he; subst he)
    go_returns
    exact ⟨rfl, by go_grown⟩
  cases bd
  · go_enter Tryz.func161, Tryz.ntmps161
    go_wp2_with (first | (go_at_call 159; refine (isObject_c _ _).mono ?_; rintro e w1 ⟨he, rfl⟩; rw [Ho.out] at he; subst he) | (go_at_call 84; refine (isValue_c _ _).mono ?_; rintro e w1 ⟨he, rfl⟩; (first | rw [Hd.out] at he | rw [Hv.out] at he); subst he))
    go_returns
    exact ⟨by cases bv <;> rfl, by go_grown⟩
  · go_enter Tryz.func161, Tryz.ntmps161
    go_wp2_with (first | (go_at_call 159; refine (isObject_c _ _).mono ?_; rintro e w1 ⟨he, rfl⟩; rw [Ho.out] at he; subst he) | (go_at_call 84; refine (isValue_c _ _).mono ?_; rintro e w1 ⟨he, rfl⟩; (first | rw [Hd.out] at he | rw [Hv.out] at he); subst he))
    go_returns
    exact ⟨by cases bv <;> rfl, by go_grown⟩
set_option maxRecDepth 100000 in
set_option maxHeartbeats 4000000 in
theorem valid_write (c s o v : Int) (w : World) : Calls Tryz.prog 31 #[opV c s 1 o 0 v] w fun e w' => e = .returned (.bool (okC c && okS s && (okC o && okV v))) ∧ Below w.heap.size w w' := by
  unfold opV
  generalize hc : okC c = bc
  generalize hs : okS s = bs
  have Hc := Lib.hid hc
  have Hs := Lib.hid hs
  clear hc hs
  cases bc
  · go_enter Tryz.func31, Tryz.ntmps31
    go_wp2_with fail
    refine (act_write _ _ _ _ _).mono ?_
    rintro e w1 ⟨rfl, hb⟩
    obtain ⟨hcc, hfz⟩ := bcell hb
    go_wp2_with ((first | (go_at_call 66; refine (isClient_c _ _).mono ?_) | (go_at_call 67; refine (isSeq_c _ _).mono ?_)); rintro e w2 ⟨he, rfl⟩; (first | rw [Hc.out] at he | rw [Hs.out] at he); subst he)
    go_returns
    exact ⟨by simp, ((Below.refl _ _).alloc (Nat.le_refl _) _).trans (hb.mono (by simp))⟩
  cases bs
  · go_enter Tryz.func31, Tryz.ntmps31
    go_wp2_with fail
    refine (act_write _ _ _ _ _).mono ?_
    rintro e w1 ⟨rfl, hb⟩
    obtain ⟨hcc, hfz⟩ := bcell hb
    go_wp2_with ((first | (go_at_call 66; refine (isClient_c _ _).mono ?_) | (go_at_call 67; refine (isSeq_c _ _).mono ?_)); rintro e w2 ⟨he, rfl⟩; (first | rw [Hc.out] at he | rw [Hs.out] at he); subst he)
    go_returns
    exact ⟨by simp, ((Below.refl _ _).alloc (Nat.le_refl _) _).trans (hb.mono (by simp))⟩
  · go_enter Tryz.func31, Tryz.ntmps31
    go_wp2_with fail
    refine (act_write _ _ _ _ _).mono ?_
    rintro e w1 ⟨rfl, hb⟩
    obtain ⟨hcc, hfz⟩ := bcell hb
    go_wp2_with ((first | (go_at_call 66; refine (isClient_c _ _).mono ?_) | (go_at_call 67; refine (isSeq_c _ _).mono ?_)); rintro e w2 ⟨he, rfl⟩; (first | rw [Hc.out] at he | rw [Hs.out] at he); subst he)
    refine (writeValid _ _ _).mono ?_
    rintro e w3 ⟨rfl, hb3⟩
    go_wp2_with fail
    go_returns
    have hz := hb.size
    exact ⟨by simp, (((Below.refl _ _).alloc (Nat.le_refl _) _).trans (hb.mono (by simp))).trans (hb3.mono (by simp at hz; omega))⟩
set_option maxRecDepth 100000 in
set_option maxHeartbeats 4000000 in
theorem valid_swap (c s o d v : Int) (w : World) : Calls Tryz.prog 31 #[opV c s 2 o d v] w fun e w' => e = .returned (.bool (okC c && okS s && (okC o && okV v && okV d))) ∧ Below w.heap.size w w' := by
  unfold opV
  generalize hc : okC c = bc
  generalize hs : okS s = bs
  have Hc := Lib.hid hc
  have Hs := Lib.hid hs
  clear hc hs
  cases bc
  · go_enter Tryz.func31, Tryz.ntmps31
    go_wp2_with fail
    refine (act_swap _ _ _ _ _ _).mono ?_
    rintro e w1 ⟨rfl, hb⟩
    obtain ⟨hcc, hfz⟩ := bcell hb
    go_wp2_with ((first | (go_at_call 66; refine (isClient_c _ _).mono ?_) | (go_at_call 67; refine (isSeq_c _ _).mono ?_)); rintro e w2 ⟨he, rfl⟩; (first | rw [Hc.out] at he | rw [Hs.out] at he); subst he)
    go_returns
    exact ⟨by simp, ((Below.refl _ _).alloc (Nat.le_refl _) _).trans (hb.mono (by simp))⟩
  cases bs
  · go_enter Tryz.func31, Tryz.ntmps31
    go_wp2_with fail
    refine (act_swap _ _ _ _ _ _).mono ?_
    rintro e w1 ⟨rfl, hb⟩
    obtain ⟨hcc, hfz⟩ := bcell hb
    go_wp2_with ((first | (go_at_call 66; refine (isClient_c _ _).mono ?_) | (go_at_call 67; refine (isSeq_c _ _).mono ?_)); rintro e w2 ⟨he, rfl⟩; (first | rw [Hc.out] at he | rw [Hs.out] at he); subst he)
    go_returns
    exact ⟨by simp, ((Below.refl _ _).alloc (Nat.le_refl _) _).trans (hb.mono (by simp))⟩
  · go_enter Tryz.func31, Tryz.ntmps31
    go_wp2_with fail
    refine (act_swap _ _ _ _ _ _).mono ?_
    rintro e w1 ⟨rfl, hb⟩
    obtain ⟨hcc, hfz⟩ := bcell hb
    go_wp2_with ((first | (go_at_call 66; refine (isClient_c _ _).mono ?_) | (go_at_call 67; refine (isSeq_c _ _).mono ?_)); rintro e w2 ⟨he, rfl⟩; (first | rw [Hc.out] at he | rw [Hs.out] at he); subst he)
    refine (swapValid _ _ _ _).mono ?_
    rintro e w3 ⟨rfl, hb3⟩
    go_wp2_with fail
    go_returns
    have hz := hb.size
    exact ⟨by simp, (((Below.refl _ _).alloc (Nat.le_refl _) _).trans (hb.mono (by simp))).trans (hb3.mono (by simp at hz; omega))⟩
set_option maxRecDepth 100000 in
set_option maxHeartbeats 4000000 in
theorem valid_none1 (c s o d v : Int) (w : World) (h : Hid ((d == 0) = false)) : Calls Tryz.prog 31 #[opV c s 1 o d v] w fun e w' => e = .returned (.bool (false)) ∧ Below w.heap.size w w' := by
  have H := h
  clear h
  unfold opV
  generalize hc : okC c = bc
  generalize hs : okS s = bs
  have Hc := Lib.hid hc
  have Hs := Lib.hid hs
  clear hc hs
  go_enter Tryz.func31, Tryz.ntmps31
  go_wp2_with fail
  refine (act_none1 _ _ _ _ _ _ H.out).mono ?_
  rintro e w1 ⟨rfl, hb⟩
  obtain ⟨hcc, hfz⟩ := bcell hb
  go_wp2_with ((first | (go_at_call 66; refine (isClient_c _ _).mono ?_) | (go_at_call 67; refine (isSeq_c _ _).mono ?_)); rintro e w2 ⟨he, rfl⟩; (first | rw [Hc.out] at he | rw [Hs.out] at he); subst he)
  go_returns
  exact ⟨rfl, ((Below.refl _ _).alloc (Nat.le_refl _) _).trans (hb.mono (by simp))⟩
set_option maxRecDepth 100000 in
set_option maxHeartbeats 4000000 in
theorem valid_none (c s k o d v : Int) (w : World) (h1 : Hid ((k == 1) = false)) (h2 : Hid ((k == 2) = false)) : Calls Tryz.prog 31 #[opV c s k o d v] w fun e w' => e = .returned (.bool (false)) ∧ Below w.heap.size w w' := by
  have H1 := h1
  have H2 := h2
  clear h1 h2
  unfold opV
  generalize hc : okC c = bc
  generalize hs : okS s = bs
  have Hc := Lib.hid hc
  have Hs := Lib.hid hs
  clear hc hs
  go_enter Tryz.func31, Tryz.ntmps31
  go_wp2_with fail
  refine (act_none _ _ _ _ _ _ _ H1.out H2.out).mono ?_
  rintro e w1 ⟨rfl, hb⟩
  obtain ⟨hcc, hfz⟩ := bcell hb
  go_wp2_with ((first | (go_at_call 66; refine (isClient_c _ _).mono ?_) | (go_at_call 67; refine (isSeq_c _ _).mono ?_)); rintro e w2 ⟨he, rfl⟩; (first | rw [Hc.out] at he | rw [Hs.out] at he); subst he)
  go_returns
  exact ⟨rfl, ((Below.refl _ _).alloc (Nat.le_refl _) _).trans (hb.mono (by simp))⟩
theorem implIsValidOp (c s k o d v : Int) (w : World) : Calls Tryz.prog 31 #[opV c s k o d v] w fun e w' => e = .returned (.bool (okOp c s k o d v)) ∧ Below w.heap.size w w' := by
  by_cases h1 : k = 1
  · subst h1
    by_cases h0 : d = 0
    · subst h0
      have e : okOp c s 1 o 0 v = (okC c && okS s && (okC o && okV v)) := by simp [okOp, Bool.and_assoc]
      rw [e]; exact valid_write c s o v w
    · have e : okOp c s 1 o d v = false := by simp [okOp, h0]
      rw [e]; exact valid_none1 c s o d v w (Lib.hid (by simpa using h0))
  · by_cases h2 : k = 2
    · subst h2
      have e : okOp c s 2 o d v = (okC c && okS s && (okC o && okV v && okV d)) := by simp [okOp, Bool.and_assoc]
      rw [e]; exact valid_swap c s o d v w
    · have e : okOp c s k o d v = false := by simp [okOp, h1, h2]
      rw [e]; exact valid_none c s k o d v w (Lib.hid (by simpa using h1)) (Lib.hid (by simpa using h2))
end Go.Proofs.YtgjebjoaemeeoaaGreatDoor.kit
