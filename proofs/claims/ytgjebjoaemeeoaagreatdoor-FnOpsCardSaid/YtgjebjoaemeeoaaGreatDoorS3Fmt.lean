/-
  Chapter 3, operations: the formats of operations and results, for every value.
-/
import Derived.Test.YtgjebjoaemeeoaaGreatDoorC1Int
import Derived.Test.YtgjebjoaemeeoaaGreatDoorS3Impl
import Derived.Test.YtgjebjoaemeeoaaGreatDoorKept
import Derived.Deep.RegionHeld3
import Derived.Deep.DrawnRows
namespace Go.Proofs.YtgjebjoaemeeoaaGreatDoor.kit
open Go.ChangeShapes Go.WideShapes Go.ChangeAt Go.RowKit
set_option linter.unusedVariables false
attribute [local go_sem ↓] Go.wp_at_zero Go.wp_at_succ

def wordDone : List UInt8 := [100, 111, 110, 101, 32]
def wordKept : List UInt8 := [107, 101, 112, 116, 32]
def wordWrite : List UInt8 := [119, 114, 105, 116, 101, 32]
def wordSwap : List UInt8 := [115, 119, 97, 112, 32]
def fmtR (b : Bool) (v : Int) : List UInt8 := if okV v then (if b then wordDone else wordKept) ++ Lib.itoa v else []
def fmtA (k o d v : Int) : List UInt8 := if k == 1 then wordWrite ++ Lib.itoa o ++ [32] ++ Lib.itoa v else wordSwap ++ Lib.itoa o ++ [32] ++ Lib.itoa d ++ [32] ++ Lib.itoa v
def fmtO (c s k o d v : Int) : List UInt8 := if okOp c s k o d v then Lib.itoa c ++ [46] ++ Lib.itoa s ++ [32] ++ fmtA k o d v else []
theorem okV_in {v : Int} (h : okV v = true) : 0 ≤ v ∧ v ≤ 9 := of_decide_eq_true h
theorem okC_in {v : Int} (h : okC v = true) : 0 ≤ v ∧ v ≤ 2 := of_decide_eq_true h
theorem okS_in {v : Int} (h : okS v = true) : 1 ≤ v ∧ v ≤ 99 := of_decide_eq_true h

set_option linter.unusedSimpArgs false
set_option maxRecDepth 100000 in
set_option maxHeartbeats 8000000 in
theorem specFormatOp_write (c s o v : Int) (w : World) (hok : Hid (okOp c s 1 o 0 v = true)) (hc : 0 ≤ c ∧ c ≤ 2) (hs : 1 ≤ s ∧ s ≤ 99) (ho : 0 ≤ o ∧ o ≤ 2) (hv : 0 ≤ v ∧ v ≤ 9) :
    Calls Tryz.prog 21 #[opV c s 1 o 0 v] w fun e w' => e = .returned (str (Lib.itoa c ++ [46] ++ Lib.itoa s ++ [32] ++ (wordWrite ++ Lib.itoa o ++ [32] ++ Lib.itoa v))) ∧ Below w.heap.size w w' := by
  unfold opV
  have lc := itoa_le c (by omega) (by omega)
  have ls := itoa_le s (by omega) (by omega)
  have lo := itoa_le o (by omega) (by omega)
  have lv := itoa_le v (by omega) (by omega)
  obtain ⟨WB, hWB⟩ : ∃ W, W = w.alloc (.cells #[.int .i64 c, .int .i64 s, .int .i64 1, .int .i64 o, .int .i64 0, .int .i64 v] 25) := ⟨_, rfl⟩
  have hz : w.heap.size + 1 ≤ WB.heap.size := by rw [hWB]; simp
  have HWB := Lib.hid hWB
  go_enter Tryz.func21, Tryz.ntmps21
  go_wp2_with fail
  refine (specIsValidOp _ _ _ _ _ _ _).mono ?_
  rintro e w1 ⟨he, hb⟩
  rw [hok.out] at he
  subst he
  rw [← HWB.out] at hb
  have hk := kept_of (hb.mono hz)
  have hcc := hk.2
  rw [hWB] at hcc
  clear hb
  go_wp2_with fail
  have e1 : ¬ (9223372036854775807 < (Lib.itoa c).length + 1) := by omega
  have e2 : ¬ (9223372036854775807 < (Lib.itoa c).length + 1 + (Lib.itoa s).length) := by omega
  have e3 : ¬ (9223372036854775807 < (Lib.itoa c).length + 1 + (Lib.itoa s).length + 1) := by omega
  go_region_held3 (fun w' => Below (w.heap.size + 1) WB w' ∧ (∀ b o, b < w.heap.size + 1 → w'.cell? ⟨b, o, none⟩ = WB.cell? ⟨b, o, none⟩)) (first | assumption | exact kept_drew (by assumption) | exact kept_next (by assumption) (by assumption) hz)
    (first | (go_at_call 57; refine (specFormatInt _ _ (by omega) (by omega)).mono ?_; rintro e w2 ⟨rfl, hb2⟩))
  clear e1 e2 e3
  rename_i hk1
  have hcc := hk1.2
  rw [hWB] at hcc
  go_wp2_with fail
  have e1 : ¬ (9223372036854775807 < (Lib.itoa c).length + 1 + (Lib.itoa s).length + 1 + 6) := by omega
  have e2 : ¬ (9223372036854775807 < (Lib.itoa c).length + 1 + (Lib.itoa s).length + 1 + 6 + (Lib.itoa o).length) := by omega
  have e3 : ¬ (9223372036854775807 < (Lib.itoa c).length + 1 + (Lib.itoa s).length + 1 + 6 + (Lib.itoa o).length + 1) := by omega
  have e4 : ¬ (9223372036854775807 < (Lib.itoa c).length + 1 + (Lib.itoa s).length + 1 + 6 + (Lib.itoa o).length + 1 + (Lib.itoa v).length) := by omega
  go_region_held3 (fun w' => Below (w.heap.size + 1) WB w' ∧ (∀ b o, b < w.heap.size + 1 → w'.cell? ⟨b, o, none⟩ = WB.cell? ⟨b, o, none⟩)) (first | assumption | exact kept_drew (by assumption) | exact kept_next (by assumption) (by assumption) hz)
    (first | (go_at_call 57; refine (specFormatInt _ _ (by omega) (by omega)).mono ?_; rintro e w2 ⟨rfl, hb2⟩))
  all_goals
    clear e1 e2 e3 e4
    rename_i hk2
    go_wp2_with fail
    go_ret
    refine ⟨?_, ?_⟩
    · exact congrArg (fun x => Ending.returned (Value.string x)) (by apply ByteArray.ext; apply Array.ext'; simp [wordWrite, wordSwap])
    · rw [hWB] at hk2; exact ((Below.refl _ _).alloc (Nat.le_refl _) _).trans (hk2.1.mono (Nat.le_succ _))
set_option maxRecDepth 100000 in
set_option maxHeartbeats 8000000 in
theorem specFormatOp_swap (c s o d v : Int) (w : World) (hok : Hid (okOp c s 2 o d v = true)) (hc : 0 ≤ c ∧ c ≤ 2) (hs : 1 ≤ s ∧ s ≤ 99) (ho : 0 ≤ o ∧ o ≤ 2) (hd : 0 ≤ d ∧ d ≤ 9) (hv : 0 ≤ v ∧ v ≤ 9) :
    Calls Tryz.prog 21 #[opV c s 2 o d v] w fun e w' => e = .returned (str (Lib.itoa c ++ [46] ++ Lib.itoa s ++ [32] ++ (wordSwap ++ Lib.itoa o ++ [32] ++ Lib.itoa d ++ [32] ++ Lib.itoa v))) ∧ Below w.heap.size w w' := by
  unfold opV
  have lc := itoa_le c (by omega) (by omega)
  have ls := itoa_le s (by omega) (by omega)
  have lo := itoa_le o (by omega) (by omega)
  have ld := itoa_le d (by omega) (by omega)
  have lv := itoa_le v (by omega) (by omega)
  obtain ⟨WB, hWB⟩ : ∃ W, W = w.alloc (.cells #[.int .i64 c, .int .i64 s, .int .i64 2, .int .i64 o, .int .i64 d, .int .i64 v] 25) := ⟨_, rfl⟩
  have hz : w.heap.size + 1 ≤ WB.heap.size := by rw [hWB]; simp
  have HWB := Lib.hid hWB
  go_enter Tryz.func21, Tryz.ntmps21
  go_wp2_with fail
  refine (specIsValidOp _ _ _ _ _ _ _).mono ?_
  rintro e w1 ⟨he, hb⟩
  rw [hok.out] at he
  subst he
  rw [← HWB.out] at hb
  have hk := kept_of (hb.mono hz)
  have hcc := hk.2
  rw [hWB] at hcc
  clear hb
  go_wp2_with fail
  have e1 : ¬ (9223372036854775807 < (Lib.itoa c).length + 1) := by omega
  have e2 : ¬ (9223372036854775807 < (Lib.itoa c).length + 1 + (Lib.itoa s).length) := by omega
  have e3 : ¬ (9223372036854775807 < (Lib.itoa c).length + 1 + (Lib.itoa s).length + 1) := by omega
  go_region_held3 (fun w' => Below (w.heap.size + 1) WB w' ∧ (∀ b o, b < w.heap.size + 1 → w'.cell? ⟨b, o, none⟩ = WB.cell? ⟨b, o, none⟩)) (first | assumption | exact kept_drew (by assumption) | exact kept_next (by assumption) (by assumption) hz)
    (first | (go_at_call 57; refine (specFormatInt _ _ (by omega) (by omega)).mono ?_; rintro e w2 ⟨rfl, hb2⟩))
  clear e1 e2 e3
  rename_i hk1
  have hcc := hk1.2
  rw [hWB] at hcc
  go_wp2_with fail
  have e1 : ¬ (9223372036854775807 < (Lib.itoa c).length + 1 + (Lib.itoa s).length + 1 + 5) := by omega
  have e2 : ¬ (9223372036854775807 < (Lib.itoa c).length + 1 + (Lib.itoa s).length + 1 + 5 + (Lib.itoa o).length) := by omega
  have e3 : ¬ (9223372036854775807 < (Lib.itoa c).length + 1 + (Lib.itoa s).length + 1 + 5 + (Lib.itoa o).length + 1) := by omega
  have e4 : ¬ (9223372036854775807 < (Lib.itoa c).length + 1 + (Lib.itoa s).length + 1 + 5 + (Lib.itoa o).length + 1 + (Lib.itoa d).length) := by omega
  have e5 : ¬ (9223372036854775807 < (Lib.itoa c).length + 1 + (Lib.itoa s).length + 1 + 5 + (Lib.itoa o).length + 1 + (Lib.itoa d).length + 1) := by omega
  have e6 : ¬ (9223372036854775807 < (Lib.itoa c).length + 1 + (Lib.itoa s).length + 1 + 5 + (Lib.itoa o).length + 1 + (Lib.itoa d).length + 1 + (Lib.itoa v).length) := by omega
  go_region_held3 (fun w' => Below (w.heap.size + 1) WB w' ∧ (∀ b o, b < w.heap.size + 1 → w'.cell? ⟨b, o, none⟩ = WB.cell? ⟨b, o, none⟩)) (first | assumption | exact kept_drew (by assumption) | exact kept_next (by assumption) (by assumption) hz)
    (first | (go_at_call 57; refine (specFormatInt _ _ (by omega) (by omega)).mono ?_; rintro e w2 ⟨rfl, hb2⟩))
  all_goals
    clear e1 e2 e3 e4 e5 e6
    rename_i hk2
    go_wp2_with fail
    go_ret
    refine ⟨?_, ?_⟩
    · exact congrArg (fun x => Ending.returned (Value.string x)) (by apply ByteArray.ext; apply Array.ext'; simp [wordWrite, wordSwap])
    · rw [hWB] at hk2; exact ((Below.refl _ _).alloc (Nat.le_refl _) _).trans (hk2.1.mono (Nat.le_succ _))
set_option maxRecDepth 100000 in
set_option maxHeartbeats 8000000 in
theorem specFormatOp_none (c s k o d v : Int) (w : World) (hok : Hid (okOp c s k o d v = false)) :
    Calls Tryz.prog 21 #[opV c s k o d v] w fun e w' => e = .returned (str []) ∧ Below w.heap.size w w' := by
  unfold opV
  go_enter Tryz.func21, Tryz.ntmps21
  go_wp2_with fail
  refine (specIsValidOp _ _ _ _ _ _ _).mono ?_
  rintro e w1 ⟨he, hb⟩
  rw [hok.out] at he
  subst he
  go_wp2_with fail
  go_ret
  exact ⟨rfl, ((Below.refl _ _).alloc (Nat.le_refl _) _).trans (hb.mono (by simp))⟩
theorem okOp_kind {c s k o d v : Int} (h : okOp c s k o d v = true) : (0 ≤ c ∧ c ≤ 2) ∧ (1 ≤ s ∧ s ≤ 99) ∧ (0 ≤ o ∧ o ≤ 2) ∧ (0 ≤ v ∧ v ≤ 9) ∧ (k = 1 ∧ d = 0 ∨ k = 2 ∧ 0 ≤ d ∧ d ≤ 9) := by
  unfold okOp at h
  simp only [Bool.and_eq_true, Bool.or_eq_true, beq_iff_eq] at h
  obtain ⟨⟨⟨⟨h1, h2⟩, h3⟩, h4⟩, h5⟩ := h
  refine ⟨okC_in h1, okS_in h2, okC_in h3, okV_in h4, ?_⟩
  rcases h5 with h5 | ⟨h5, h6⟩
  · exact .inl h5
  · exact .inr ⟨h5, okV_in h6⟩
theorem specFormatOp (c s k o d v : Int) (w : World) : Calls Tryz.prog 21 #[opV c s k o d v] w fun e w' => e = .returned (str (fmtO c s k o d v)) ∧ Below w.heap.size w w' := by
  by_cases h : okOp c s k o d v = true
  · obtain ⟨h1, h2, h3, h4, h5⟩ := okOp_kind h
    rcases h5 with ⟨rfl, rfl⟩ | ⟨rfl, h6⟩
    · have e : fmtO c s 1 o 0 v = Lib.itoa c ++ [46] ++ Lib.itoa s ++ [32] ++ (wordWrite ++ Lib.itoa o ++ [32] ++ Lib.itoa v) := by unfold fmtO; rw [if_pos h]; rfl
      rw [e]; exact specFormatOp_write c s o v w (Lib.hid h) h1 h2 h3 h4
    · have e : fmtO c s 2 o d v = Lib.itoa c ++ [46] ++ Lib.itoa s ++ [32] ++ (wordSwap ++ Lib.itoa o ++ [32] ++ Lib.itoa d ++ [32] ++ Lib.itoa v) := by unfold fmtO; rw [if_pos h]; rfl
      rw [e]; exact specFormatOp_swap c s o d v w (Lib.hid h) h1 h2 h3 h6 h4
  · have e : fmtO c s k o d v = [] := by unfold fmtO; rw [if_neg h]
    rw [e]; exact specFormatOp_none c s k o d v w (Lib.hid (by simpa using h))
set_option maxRecDepth 100000 in
set_option maxHeartbeats 8000000 in
theorem writeFormat (o v : Int) (w : World) (ho : 0 ≤ o ∧ o ≤ 2) (hv : 0 ≤ v ∧ v ≤ 9) (hT : Tab w) : Calls Tryz.prog 156 #[.agg #[.int .i64 o, .int .i64 v]] w fun e w' => e = .returned (str (wordWrite ++ Lib.itoa o ++ [32] ++ Lib.itoa v)) ∧ Below w.heap.size w w' := by
  have lo := itoa_le o (by omega) (by omega)
  have lv := itoa_le v (by omega) (by omega)
  obtain ⟨WB, hWB⟩ : ∃ W, W = w.alloc (.cells #[.int .i64 o, .int .i64 v] 116) := ⟨_, rfl⟩
  have hz : w.heap.size + 1 ≤ WB.heap.size := by rw [hWB]; simp
  have HWB := Lib.hid hWB
  have hA : Below w.heap.size w WB := by rw [hWB]; exact (Below.refl _ _).alloc (Nat.le_refl _) _
  have HT : ∀ W, (Below (w.heap.size + 1) WB W ∧ (∀ b o, b < w.heap.size + 1 → W.cell? ⟨b, o, none⟩ = WB.cell? ⟨b, o, none⟩)) → Tab W := fun W h => hT.below (hA.trans (h.1.mono (Nat.le_succ _)))
  go_enter Tryz.func156, Tryz.ntmps156
  go_wp2_with fail
  rw [← HWB.out]
  have hk := kept_of (Below.refl (w.heap.size + 1) WB)
  have c0 : WB.cell? ⟨w.heap.size, 0, none⟩ = some (.int .i64 o) := by rw [hWB, World.cell?_alloc_at _ _ _ _ rfl]; rfl
  have c1 : WB.cell? ⟨w.heap.size, 1, none⟩ = some (.int .i64 v) := by rw [hWB, World.cell?_alloc_at _ _ _ _ rfl]; rfl
  clear hWB
  have e1 : ¬ (9223372036854775807 < 6 + (Lib.itoa o).length) := by omega
  have e2 : ¬ (9223372036854775807 < 6 + (Lib.itoa o).length + 1) := by omega
  have e3 : ¬ (9223372036854775807 < 6 + (Lib.itoa o).length + 1 + (Lib.itoa v).length) := by omega
  go_region_held3 (fun w' => Below (w.heap.size + 1) WB w' ∧ (∀ b o, b < w.heap.size + 1 → w'.cell? ⟨b, o, none⟩ = WB.cell? ⟨b, o, none⟩)) (first | assumption | exact kept_drew (by assumption) | exact kept_next (by assumption) (by assumption) hz)
    (first | (go_at_call 32; refine (implFormatInt _ _ (by omega) (by omega) (HT _ (by assumption))).mono ?_; rintro e w2 ⟨rfl, hb2⟩))
  all_goals
    clear e1 e2 e3
    rename_i hk2
    go_wp2_with fail
    go_ret
    refine ⟨?_, ?_⟩
    · exact congrArg (fun x => Ending.returned (Value.string x)) (by apply ByteArray.ext; apply Array.ext'; simp [wordWrite, wordSwap])
    · exact hA.trans (hk2.1.mono (Nat.le_succ _))
set_option maxRecDepth 100000 in
set_option maxHeartbeats 8000000 in
theorem swapFormat (o d v : Int) (w : World) (ho : 0 ≤ o ∧ o ≤ 2) (hd : 0 ≤ d ∧ d ≤ 9) (hv : 0 ≤ v ∧ v ≤ 9) (hT : Tab w) : Calls Tryz.prog 160 #[.agg #[.int .i64 o, .int .i64 d, .int .i64 v]] w fun e w' => e = .returned (str (wordSwap ++ Lib.itoa o ++ [32] ++ Lib.itoa d ++ [32] ++ Lib.itoa v)) ∧ Below w.heap.size w w' := by
  have lo := itoa_le o (by omega) (by omega)
  have ld := itoa_le d (by omega) (by omega)
  have lv := itoa_le v (by omega) (by omega)
  obtain ⟨WB, hWB⟩ : ∃ W, W = w.alloc (.cells #[.int .i64 o, .int .i64 d, .int .i64 v] 118) := ⟨_, rfl⟩
  have hz : w.heap.size + 1 ≤ WB.heap.size := by rw [hWB]; simp
  have HWB := Lib.hid hWB
  have hA : Below w.heap.size w WB := by rw [hWB]; exact (Below.refl _ _).alloc (Nat.le_refl _) _
  have HT : ∀ W, (Below (w.heap.size + 1) WB W ∧ (∀ b o, b < w.heap.size + 1 → W.cell? ⟨b, o, none⟩ = WB.cell? ⟨b, o, none⟩)) → Tab W := fun W h => hT.below (hA.trans (h.1.mono (Nat.le_succ _)))
  go_enter Tryz.func160, Tryz.ntmps160
  go_wp2_with fail
  rw [← HWB.out]
  have hk := kept_of (Below.refl (w.heap.size + 1) WB)
  have c0 : WB.cell? ⟨w.heap.size, 0, none⟩ = some (.int .i64 o) := by rw [hWB, World.cell?_alloc_at _ _ _ _ rfl]; rfl
  have c1 : WB.cell? ⟨w.heap.size, 1, none⟩ = some (.int .i64 d) := by rw [hWB, World.cell?_alloc_at _ _ _ _ rfl]; rfl
  have c2 : WB.cell? ⟨w.heap.size, 2, none⟩ = some (.int .i64 v) := by rw [hWB, World.cell?_alloc_at _ _ _ _ rfl]; rfl
  clear hWB
  have e1 : ¬ (9223372036854775807 < 5 + (Lib.itoa o).length) := by omega
  have e2 : ¬ (9223372036854775807 < 5 + (Lib.itoa o).length + 1) := by omega
  have e3 : ¬ (9223372036854775807 < 5 + (Lib.itoa o).length + 1 + (Lib.itoa d).length) := by omega
  have e4 : ¬ (9223372036854775807 < 5 + (Lib.itoa o).length + 1 + (Lib.itoa d).length + 1) := by omega
  have e5 : ¬ (9223372036854775807 < 5 + (Lib.itoa o).length + 1 + (Lib.itoa d).length + 1 + (Lib.itoa v).length) := by omega
  go_region_held3 (fun w' => Below (w.heap.size + 1) WB w' ∧ (∀ b o, b < w.heap.size + 1 → w'.cell? ⟨b, o, none⟩ = WB.cell? ⟨b, o, none⟩)) (first | assumption | exact kept_drew (by assumption) | exact kept_next (by assumption) (by assumption) hz)
    (first | (go_at_call 32; refine (implFormatInt _ _ (by omega) (by omega) (HT _ (by assumption))).mono ?_; rintro e w2 ⟨rfl, hb2⟩))
  all_goals
    clear e1 e2 e3 e4 e5
    rename_i hk2
    go_wp2_with fail
    go_ret
    refine ⟨?_, ?_⟩
    · exact congrArg (fun x => Ending.returned (Value.string x)) (by apply ByteArray.ext; apply Array.ext'; simp [wordWrite, wordSwap])
    · exact hA.trans (hk2.1.mono (Nat.le_succ _))
set_option maxRecDepth 100000 in
set_option maxHeartbeats 8000000 in
theorem implFormatOp_write_no (c s o v : Int) (w : World) (hok : Hid (okOp c s 1 o 0 v = false)) :
    Calls Tryz.prog 6 #[opV c s 1 o 0 v] w fun e w' => e = .returned (str []) ∧ Below w.heap.size w w' := by
  unfold opV
  obtain ⟨WB, hWB⟩ : ∃ W, W = w.alloc (.cells #[.int .i64 c, .int .i64 s, .int .i64 1, .int .i64 o, .int .i64 0, .int .i64 v] 25) := ⟨_, rfl⟩
  have hz : w.heap.size + 1 ≤ WB.heap.size := by rw [hWB]; simp
  have HWB := Lib.hid hWB
  have hA : Below w.heap.size w WB := by rw [hWB]; exact (Below.refl _ _).alloc (Nat.le_refl _) _
  have c0 : WB.cell? ⟨w.heap.size, 0, none⟩ = some (.int .i64 c) := by rw [hWB, World.cell?_alloc_at _ _ _ _ rfl]; rfl
  have c1 : WB.cell? ⟨w.heap.size, 1, none⟩ = some (.int .i64 s) := by rw [hWB, World.cell?_alloc_at _ _ _ _ rfl]; rfl
  go_enter Tryz.func6, Tryz.ntmps6
  go_wp2_with fail
  refine (act_write _ _ _ _ _).mono ?_
  rintro e w1 ⟨rfl, hb⟩
  rw [← HWB.out] at hb
  have hk := kept_of (hb.mono hz)
  have hcc := hk.2
  rw [hWB] at hcc
  clear hb
  go_wp2_with fail
  refine (implIsValidOp _ _ _ _ _ _ _).mono ?_
  rintro e w2 ⟨he, hb⟩
  rw [hok.out] at he
  subst he
  have hk1 := kept_next hk hb hz
  have hcc := hk1.2
  clear hb hk
  go_wp2_with fail
  go_ret
  exact ⟨rfl, hA.trans (hk1.1.mono (Nat.le_succ _))⟩
set_option maxRecDepth 100000 in
set_option maxHeartbeats 8000000 in
theorem implFormatOp_write (c s o v : Int) (w : World) (hok : Hid (okOp c s 1 o 0 v = true)) (hc : 0 ≤ c ∧ c ≤ 2) (hs : 1 ≤ s ∧ s ≤ 99) (ho : 0 ≤ o ∧ o ≤ 2) (hv : 0 ≤ v ∧ v ≤ 9) (hT : Tab w) :
    Calls Tryz.prog 6 #[opV c s 1 o 0 v] w fun e w' => e = .returned (str (Lib.itoa c ++ [46] ++ Lib.itoa s ++ [32] ++ (wordWrite ++ Lib.itoa o ++ [32] ++ Lib.itoa v))) ∧ Below w.heap.size w w' := by
  unfold opV
  have lc := itoa_le c (by omega) (by omega)
  have ls := itoa_le s (by omega) (by omega)
  have lo := itoa_le o (by omega) (by omega)
  have lv := itoa_le v (by omega) (by omega)
  obtain ⟨f, hf⟩ : ∃ f, f = wordWrite ++ Lib.itoa o ++ [32] ++ Lib.itoa v := ⟨_, rfl⟩
  have lf : f.length ≤ 90 := by rw [hf]; simp [wordWrite, wordSwap]; omega
  have HF := Lib.hid hf
  rw [← hf]
  clear hf
  obtain ⟨WB, hWB⟩ : ∃ W, W = w.alloc (.cells #[.int .i64 c, .int .i64 s, .int .i64 1, .int .i64 o, .int .i64 0, .int .i64 v] 25) := ⟨_, rfl⟩
  have hz : w.heap.size + 1 ≤ WB.heap.size := by rw [hWB]; simp
  have HWB := Lib.hid hWB
  have hA : Below w.heap.size w WB := by rw [hWB]; exact (Below.refl _ _).alloc (Nat.le_refl _) _
  have c0 : WB.cell? ⟨w.heap.size, 0, none⟩ = some (.int .i64 c) := by rw [hWB, World.cell?_alloc_at _ _ _ _ rfl]; rfl
  have c1 : WB.cell? ⟨w.heap.size, 1, none⟩ = some (.int .i64 s) := by rw [hWB, World.cell?_alloc_at _ _ _ _ rfl]; rfl
  have HT : ∀ W, (Below (w.heap.size + 1) WB W ∧ (∀ b o, b < w.heap.size + 1 → W.cell? ⟨b, o, none⟩ = WB.cell? ⟨b, o, none⟩)) → Tab W := fun W h => hT.below (hA.trans (h.1.mono (Nat.le_succ _)))
  have cf := fun W h => Lib.hid (writeFormat o v W ho hv (HT W h))
  rw [← HF.out] at cf
  go_enter Tryz.func6, Tryz.ntmps6
  go_wp2_with fail
  refine (act_write _ _ _ _ _).mono ?_
  rintro e w1 ⟨rfl, hb⟩
  rw [← HWB.out] at hb
  have hk := kept_of (hb.mono hz)
  have hcc := hk.2
  rw [hWB] at hcc
  clear hb
  go_wp2_with fail
  refine (implIsValidOp _ _ _ _ _ _ _).mono ?_
  rintro e w2 ⟨he, hb⟩
  rw [hok.out] at he
  subst he
  have hk1 := kept_next hk hb hz
  have hcc := hk1.2
  clear hb hk hWB
  go_wp2_with fail
  have e1 : ¬ (9223372036854775807 < (Lib.itoa c).length + 1) := by omega
  have e2 : ¬ (9223372036854775807 < (Lib.itoa c).length + 1 + (Lib.itoa s).length) := by omega
  have e3 : ¬ (9223372036854775807 < (Lib.itoa c).length + 1 + (Lib.itoa s).length + 1) := by omega
  have e4 : ¬ (9223372036854775807 < (Lib.itoa c).length + 1 + (Lib.itoa s).length + 1 + f.length) := by omega
  go_region_held3 (fun w' => Below (w.heap.size + 1) WB w' ∧ (∀ b o, b < w.heap.size + 1 → w'.cell? ⟨b, o, none⟩ = WB.cell? ⟨b, o, none⟩)) (first | assumption | exact kept_drew (by assumption) | exact kept_next (by assumption) (by assumption) hz)
    (first | (go_at_call 32; refine (implFormatInt _ _ (by omega) (by omega) (HT _ (by assumption))).mono ?_; rintro e w2 ⟨rfl, hb2⟩) | (go_at_call 156; refine ((cf _ (by assumption)).out).mono ?_; rintro e w2 ⟨rfl, hb2⟩))
  all_goals
    clear e1 e2 e3 e4
    rename_i hk2
    go_wp2_with fail
    go_ret
    refine ⟨?_, ?_⟩
    · exact congrArg (fun x => Ending.returned (Value.string x)) (by apply ByteArray.ext; apply Array.ext'; simp [wordWrite, wordSwap])
    · exact hA.trans (hk2.1.mono (Nat.le_succ _))
set_option maxRecDepth 100000 in
set_option maxHeartbeats 8000000 in
theorem implFormatOp_swap_no (c s o d v : Int) (w : World) (hok : Hid (okOp c s 2 o d v = false)) :
    Calls Tryz.prog 6 #[opV c s 2 o d v] w fun e w' => e = .returned (str []) ∧ Below w.heap.size w w' := by
  unfold opV
  obtain ⟨WB, hWB⟩ : ∃ W, W = w.alloc (.cells #[.int .i64 c, .int .i64 s, .int .i64 2, .int .i64 o, .int .i64 d, .int .i64 v] 25) := ⟨_, rfl⟩
  have hz : w.heap.size + 1 ≤ WB.heap.size := by rw [hWB]; simp
  have HWB := Lib.hid hWB
  have hA : Below w.heap.size w WB := by rw [hWB]; exact (Below.refl _ _).alloc (Nat.le_refl _) _
  have c0 : WB.cell? ⟨w.heap.size, 0, none⟩ = some (.int .i64 c) := by rw [hWB, World.cell?_alloc_at _ _ _ _ rfl]; rfl
  have c1 : WB.cell? ⟨w.heap.size, 1, none⟩ = some (.int .i64 s) := by rw [hWB, World.cell?_alloc_at _ _ _ _ rfl]; rfl
  go_enter Tryz.func6, Tryz.ntmps6
  go_wp2_with fail
  refine (act_swap _ _ _ _ _ _).mono ?_
  rintro e w1 ⟨rfl, hb⟩
  rw [← HWB.out] at hb
  have hk := kept_of (hb.mono hz)
  have hcc := hk.2
  rw [hWB] at hcc
  clear hb
  go_wp2_with fail
  refine (implIsValidOp _ _ _ _ _ _ _).mono ?_
  rintro e w2 ⟨he, hb⟩
  rw [hok.out] at he
  subst he
  have hk1 := kept_next hk hb hz
  have hcc := hk1.2
  clear hb hk
  go_wp2_with fail
  go_ret
  exact ⟨rfl, hA.trans (hk1.1.mono (Nat.le_succ _))⟩
set_option maxRecDepth 100000 in
set_option maxHeartbeats 8000000 in
theorem implFormatOp_swap (c s o d v : Int) (w : World) (hok : Hid (okOp c s 2 o d v = true)) (hc : 0 ≤ c ∧ c ≤ 2) (hs : 1 ≤ s ∧ s ≤ 99) (ho : 0 ≤ o ∧ o ≤ 2) (hd : 0 ≤ d ∧ d ≤ 9) (hv : 0 ≤ v ∧ v ≤ 9) (hT : Tab w) :
    Calls Tryz.prog 6 #[opV c s 2 o d v] w fun e w' => e = .returned (str (Lib.itoa c ++ [46] ++ Lib.itoa s ++ [32] ++ (wordSwap ++ Lib.itoa o ++ [32] ++ Lib.itoa d ++ [32] ++ Lib.itoa v))) ∧ Below w.heap.size w w' := by
  unfold opV
  have lc := itoa_le c (by omega) (by omega)
  have ls := itoa_le s (by omega) (by omega)
  have lo := itoa_le o (by omega) (by omega)
  have ld := itoa_le d (by omega) (by omega)
  have lv := itoa_le v (by omega) (by omega)
  obtain ⟨f, hf⟩ : ∃ f, f = wordSwap ++ Lib.itoa o ++ [32] ++ Lib.itoa d ++ [32] ++ Lib.itoa v := ⟨_, rfl⟩
  have lf : f.length ≤ 90 := by rw [hf]; simp [wordWrite, wordSwap]; omega
  have HF := Lib.hid hf
  rw [← hf]
  clear hf
  obtain ⟨WB, hWB⟩ : ∃ W, W = w.alloc (.cells #[.int .i64 c, .int .i64 s, .int .i64 2, .int .i64 o, .int .i64 d, .int .i64 v] 25) := ⟨_, rfl⟩
  have hz : w.heap.size + 1 ≤ WB.heap.size := by rw [hWB]; simp
  have HWB := Lib.hid hWB
  have hA : Below w.heap.size w WB := by rw [hWB]; exact (Below.refl _ _).alloc (Nat.le_refl _) _
  have c0 : WB.cell? ⟨w.heap.size, 0, none⟩ = some (.int .i64 c) := by rw [hWB, World.cell?_alloc_at _ _ _ _ rfl]; rfl
  have c1 : WB.cell? ⟨w.heap.size, 1, none⟩ = some (.int .i64 s) := by rw [hWB, World.cell?_alloc_at _ _ _ _ rfl]; rfl
  have HT : ∀ W, (Below (w.heap.size + 1) WB W ∧ (∀ b o, b < w.heap.size + 1 → W.cell? ⟨b, o, none⟩ = WB.cell? ⟨b, o, none⟩)) → Tab W := fun W h => hT.below (hA.trans (h.1.mono (Nat.le_succ _)))
  have cf := fun W h => Lib.hid (swapFormat o d v W ho hd hv (HT W h))
  rw [← HF.out] at cf
  go_enter Tryz.func6, Tryz.ntmps6
  go_wp2_with fail
  refine (act_swap _ _ _ _ _ _).mono ?_
  rintro e w1 ⟨rfl, hb⟩
  rw [← HWB.out] at hb
  have hk := kept_of (hb.mono hz)
  have hcc := hk.2
  rw [hWB] at hcc
  clear hb
  go_wp2_with fail
  refine (implIsValidOp _ _ _ _ _ _ _).mono ?_
  rintro e w2 ⟨he, hb⟩
  rw [hok.out] at he
  subst he
  have hk1 := kept_next hk hb hz
  have hcc := hk1.2
  clear hb hk hWB
  go_wp2_with fail
  have e1 : ¬ (9223372036854775807 < (Lib.itoa c).length + 1) := by omega
  have e2 : ¬ (9223372036854775807 < (Lib.itoa c).length + 1 + (Lib.itoa s).length) := by omega
  have e3 : ¬ (9223372036854775807 < (Lib.itoa c).length + 1 + (Lib.itoa s).length + 1) := by omega
  have e4 : ¬ (9223372036854775807 < (Lib.itoa c).length + 1 + (Lib.itoa s).length + 1 + f.length) := by omega
  go_region_held3 (fun w' => Below (w.heap.size + 1) WB w' ∧ (∀ b o, b < w.heap.size + 1 → w'.cell? ⟨b, o, none⟩ = WB.cell? ⟨b, o, none⟩)) (first | assumption | exact kept_drew (by assumption) | exact kept_next (by assumption) (by assumption) hz)
    (first | (go_at_call 32; refine (implFormatInt _ _ (by omega) (by omega) (HT _ (by assumption))).mono ?_; rintro e w2 ⟨rfl, hb2⟩) | (go_at_call 160; refine ((cf _ (by assumption)).out).mono ?_; rintro e w2 ⟨rfl, hb2⟩))
  all_goals
    clear e1 e2 e3 e4
    rename_i hk2
    go_wp2_with fail
    go_ret
    refine ⟨?_, ?_⟩
    · exact congrArg (fun x => Ending.returned (Value.string x)) (by apply ByteArray.ext; apply Array.ext'; simp [wordWrite, wordSwap])
    · exact hA.trans (hk2.1.mono (Nat.le_succ _))
set_option maxRecDepth 100000 in
set_option maxHeartbeats 8000000 in
theorem implFormatOp_none1 (c s o d v : Int) (w : World) (H1 : Hid ((d == 0) = false)) :
    Calls Tryz.prog 6 #[opV c s 1 o d v] w fun e w' => e = .returned (str []) ∧ Below w.heap.size w w' := by
  unfold opV
  go_enter Tryz.func6, Tryz.ntmps6
  go_wp2_with fail
  refine (act_none1 _ _ _ _ _ _ H1.out).mono ?_
  rintro e w1 ⟨rfl, hb⟩
  go_wp2_with fail
  go_ret
  exact ⟨rfl, ((Below.refl _ _).alloc (Nat.le_refl _) _).trans (hb.mono (by simp))⟩
set_option maxRecDepth 100000 in
set_option maxHeartbeats 8000000 in
theorem implFormatOp_none (c s k o d v : Int) (w : World) (H1 : Hid ((k == 1) = false)) (H2 : Hid ((k == 2) = false)) :
    Calls Tryz.prog 6 #[opV c s k o d v] w fun e w' => e = .returned (str []) ∧ Below w.heap.size w w' := by
  unfold opV
  go_enter Tryz.func6, Tryz.ntmps6
  go_wp2_with fail
  refine (act_none _ _ _ _ _ _ _ H1.out H2.out).mono ?_
  rintro e w1 ⟨rfl, hb⟩
  go_wp2_with fail
  go_ret
  exact ⟨rfl, ((Below.refl _ _).alloc (Nat.le_refl _) _).trans (hb.mono (by simp))⟩
theorem implFormatOp (c s k o d v : Int) (w : World) (hT : Tab w) : Calls Tryz.prog 6 #[opV c s k o d v] w fun e w' => e = .returned (str (fmtO c s k o d v)) ∧ Below w.heap.size w w' := by
  by_cases h : okOp c s k o d v = true
  · obtain ⟨h1, h2, h3, h4, h5⟩ := okOp_kind h
    rcases h5 with ⟨rfl, rfl⟩ | ⟨rfl, h6⟩
    · have e : fmtO c s 1 o 0 v = Lib.itoa c ++ [46] ++ Lib.itoa s ++ [32] ++ (wordWrite ++ Lib.itoa o ++ [32] ++ Lib.itoa v) := by unfold fmtO; rw [if_pos h]; rfl
      rw [e]; exact implFormatOp_write c s o v w (Lib.hid h) h1 h2 h3 h4 hT
    · have e : fmtO c s 2 o d v = Lib.itoa c ++ [46] ++ Lib.itoa s ++ [32] ++ (wordSwap ++ Lib.itoa o ++ [32] ++ Lib.itoa d ++ [32] ++ Lib.itoa v) := by unfold fmtO; rw [if_pos h]; rfl
      rw [e]; exact implFormatOp_swap c s o d v w (Lib.hid h) h1 h2 h3 h6 h4 hT
  · have e : fmtO c s k o d v = [] := by unfold fmtO; rw [if_neg h]
    have h := Lib.hid (show okOp c s k o d v = false by simpa using h)
    rw [e]
    by_cases h1 : k = 1
    · subst h1
      by_cases h0 : d = 0
      · subst h0; exact implFormatOp_write_no c s o v w h
      · exact implFormatOp_none1 c s o d v w (Lib.hid (by simpa using h0))
    · by_cases h2 : k = 2
      · subst h2; exact implFormatOp_swap_no c s o d v w h
      · exact implFormatOp_none c s k o d v w (Lib.hid (by simpa using h1)) (Lib.hid (by simpa using h2))
end Go.Proofs.YtgjebjoaemeeoaaGreatDoor.kit
