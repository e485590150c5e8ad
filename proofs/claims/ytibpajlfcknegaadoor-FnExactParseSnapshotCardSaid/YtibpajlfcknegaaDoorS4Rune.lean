/-
  strings.IndexRune over the two signs, for every rune of 128 and above that a range over a string can give.
-/
import Derived.Test.YtibpajlfcknegaaDoorC1Rune
namespace Go.Proofs.YtibpajlfcknegaaDoor.kit
open Go.ChangeShapes Go.WideShapes Go.ChangeAt Go.RowKit
set_option linter.unusedVariables false

def pmStr : ByteArray := ⟨#[43, 45]⟩
theorem pmStr_low : ∀ (k : Nat), k < 2 → ∃ b : UInt8, pmStr[k]? = some b ∧ b.toNat < 128 := fun k hk => by
  match k, hk with
  | 0, _ => exact ⟨43, rfl, by decide⟩
  | 1, _ => exact ⟨45, rfl, by decide⟩
set_option maxRecDepth 100000 in
theorem pmRune_bad (r : Int) (w : World) (h : 128 ≤ r) (h2 : Lib.validRune r = false) (h3 : (r == 65533) = false) :
    Calls Tryd.prog 68 #[.string pmStr, .int .i32 r] w fun e w' => e = .returned (.int .i64 (-1)) ∧ Below w.heap.size w w' := by
  have c1 := Lib.hid (Tryd.utf8_ValidRune r)
  rw [h2] at c1
  have HV := Lib.hid h2
  clear h2
  go_enter Tryd.func68, Tryd.ntmps68
  go_wp2_with (go_at_call 86; refine ((c1.out) _).mono ?_; rintro e w' ⟨rfl, rfl⟩)
  go_ret
  exact ⟨rfl, Below.refl _ _⟩
theorem pm_at {pos : Nat} (hp : pos < pmStr.size) : (pmStr[pos]'hp).toNat < 128 := by
  obtain ⟨b, hb, hlt⟩ := pmStr_low pos hp
  rw [ByteArray.getElem?_lt' _ _ hp] at hb
  rw [Option.some.inj hb]; exact hlt
set_option maxRecDepth 100000 in
theorem pmRune_err (w : World) :
    Calls Tryd.prog 68 #[.string pmStr, .int .i32 65533] w fun e w' => e = .returned (.int .i64 (-1)) ∧ Below w.heap.size w w' := by
  go_enter Tryd.func68, Tryd.ntmps68
  go_wp2_with fail
  go_loopw [5, 6] (fun _ _ wr => ∃ pos : Nat, wr = w.iter pmStr pos) (fun _ _ wr => pmStr.size - wr.iterPos w.heap.size)
  case atStart => exact ⟨0, rfl⟩
  case round =>
    obtain ⟨pos, rfl⟩ := hrel
    by_cases hp : pos < pmStr.size
    · have hlt := pm_at hp
      have hnx : ∀ ty, (Instr.next (.pointer (some ⟨w.heap.size, 0, none⟩)) true ty).run Tryd.prog (w.iter pmStr pos) = _ := fun ty => run_next_ascii w pmStr pos ty hp hlt
      have g1 : (((pmStr[pos]'hp).toNat : Int) == 65533) = false := by rw [beq_eq_false_iff_ne]; omega
      go_wp2_with fail
      go_roundw
      case rel => exact ⟨pos + 1, rfl⟩
      case measure => simp; omega
    · have hnx : ∀ ty, (Instr.next (.pointer (some ⟨w.heap.size, 0, none⟩)) true ty).run Tryd.prog (w.iter pmStr pos) = _ := fun ty => run_next_end w pmStr pos ty hp
      go_wp2_with fail
      go_ret
      exact ⟨rfl, (Below.refl _ _).alloc (Nat.le_refl _) _⟩
theorem pm_bytes : ∀ b ∈ pmStr.data.toList, b.toNat < 128 := by decide +kernel
set_option maxRecDepth 100000 in
theorem pmRune_wide (r : Int) (w : World) (h : 128 ≤ r) (h2 : Lib.validRune r = true) (h3 : (r == 65533) = false) :
    Calls Tryd.prog 68 #[.string pmStr, .int .i32 r] w fun e w' => e = .returned (.int .i64 (-1)) ∧ Below w.heap.size w w' := by
  have c1 := Lib.hid (Tryd.utf8_ValidRune r)
  rw [h2] at c1
  have hf := encode_facts r (by rw [Go.validRune_eq]; unfold Go.validRune; unfold Lib.validRune at h2; simpa using h2) h
  have HV := Lib.hid h2
  clear h2
  obtain ⟨t, ht⟩ : ∃ t, t = Utf8.encode r := ⟨_, rfl⟩
  rw [← ht] at hf
  obtain ⟨h4, h5, h6⟩ := hf
  have HT := Lib.hid ht.symm
  have h7 := h6 (by omega)
  clear h6
  obtain ⟨L, hL⟩ : ∃ L, t.size = L + 1 := ⟨t.size - 1, by omega⟩
  have q6 : L < t.size := by omega
  have h8 : 128 ≤ (t[L]'q6).toNat := by
    have e : t.size - 1 = L := by omega
    simpa only [e] using h7
  clear h7
  have henc : ∀ W : World, (convert 21 9 (.int .i32 r)).run Tryd.prog W = .ok (.string t) W := fun W => by
    rw [← HT.out]
    exact run_convert_int_string W _ _ _ _ (by kernel_rfl) Tryd.underlying9
  by_cases q4 : L < pmStr.size
  case neg =>
    have q0 : pmStr.size = 2 := rfl
    have n1 : decide (L < pmStr.size) = false := decide_eq_false q4
    have n2 : ¬ ((L : Int) < (pmStr.size : Int)) := by omega
    clear ht
    go_enter Tryd.func68, Tryd.ntmps68
    go_wp2_with (go_at_call 86; refine ((c1.out) _).mono ?_; rintro e w' ⟨rfl, rfl⟩)
    go_step3
    go_wp2_with fail
    refine wp_loop_rounds 1 ?_
    rw [rounds_succ]
    go_wp2_with fail
    rw [Exit.noGoto_ret]
    go_simp
    go_ret
    exact ⟨rfl, Below.refl _ _⟩
  have q5 := pm_at q4
  have q41 : (L : Int) < (pmStr.size : Int) := by omega
  have q42 : (L : Int) < (t.size : Int) := by omega
  clear ht
  go_enter Tryd.func68, Tryd.ntmps68
  go_wp2_with (go_at_call 86; refine ((c1.out) _).mono ?_; rintro e w' ⟨rfl, rfl⟩)
  go_step3
  go_wp2_with fail
  refine wp_loop_rounds 1 ?_
  rw [rounds_succ]
  have g1 : (((pmStr[L]'q4).toNat : Int) == (t[L]'q6).toNat) = false := by rw [beq_eq_false_iff_ne]; omega
  have g2 : (((pmStr[L]'q4).toNat : Int) != (t[L]'q6).toNat) = true := by rw [bne_iff_ne]; omega
  go_wp2_with fail
  go_step3
  go_wp2_with fail
  have HL := Lib.hid hL
  clear hL
  go_quiet (fail)
  go_wp2_with fail
  have c3 : ∀ W, Calls Tryd.prog 85 #[.string (pmStr.extract (L + 1) pmStr.size), .int .u8 ((t[L]'q6).toNat : Int)] W fun e w' => e = .returned (.int .i64 (-1)) ∧ w' = W := fun W => by
    have h := Tryd.strings_IndexByte (pmStr.extract (L + 1) pmStr.size) ((t[L]'q6).toNat : Int) W
    rw [indexByte_none] at h
    · exact h
    · intro b hb hbc
      have := pm_bytes b (mem_extract hb)
      have e : ((t[L]'q6).toNat : Int).toNat.toUInt8 = t[L]'q6 := by simp
      rw [e] at hbc
      subst hbc
      omega
  have C3 := fun W => Lib.hid (c3 W)
  clear c3
  have q11 : (L : Int) + 1 ≤ (pmStr.size : Int) := by omega
  have q12 : (0 : Int) ≤ (L : Int) + 1 := by omega
  have q13 : ((L : Int) + 1).toNat = L + 1 := by omega
  have q14 : IntKind.i64.wrap ((L : Int) + 1) = (L : Int) + 1 := IntWalk.i64_in _ (by have : pmStr.size = 2 := rfl; omega)
  go_region_with (go_at_call 85; refine ((C3 _).out).mono ?_; rintro e w' ⟨rfl, rfl⟩)
  clear q11 q12 q13 q14
  go_wp2_with fail
  rw [Exit.noGoto_ret]
  go_simp
  go_ret
  exact ⟨rfl, below_drewN (Below.refl _ _) _⟩
/-- a rune of 128 and above is no sign -/
theorem pmRune_high (r : Int) (w : World) (h : 128 ≤ r) :
    Calls Tryd.prog 68 #[.string pmStr, .int .i32 r] w fun e w' => e = .returned (.int .i64 (-1)) ∧ Below w.heap.size w w' := by
  by_cases h2 : r = 65533
  · subst h2; exact pmRune_err w
  · have h3 : (r == 65533) = false := by rw [beq_eq_false_iff_ne]; exact h2
    cases hv : Lib.validRune r with
    | true => exact pmRune_wide r w h hv h3
    | false => exact pmRune_bad r w h hv h3
end Go.Proofs.YtibpajlfcknegaaDoor.kit
