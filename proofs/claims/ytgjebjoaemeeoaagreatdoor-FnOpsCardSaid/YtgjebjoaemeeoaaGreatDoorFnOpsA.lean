/-
  Chapters 2 and 8: sets and configurations (merged text).
-/
import Derived.Test.YtgjebjoaemeeoaaGreatDoorInts
import Derived.Test.YtgjebjoaemeeoaaGreatDoorShelf
import Derived.Test.YtgjebjoaemeeoaaGreatDoorC1Int
import Derived.Lib.OthersKept
import Derived.Test.YtgjebjoaemeeoaaGreatDoorRows
import Derived.Lib.SlicesCompact
import Derived.Test.YtgjebjoaemeeoaaGreatDoorCuts
import Derived.Test.YtgjebjoaemeeoaaGreatDoorIntsB
import Derived.Test.YtgjebjoaemeeoaaGreatDoorStructs
import Derived.Deep.DeepCutAuto
import Derived.Handy
import Derived.OwnWalk
import Derived.Test.YtgjebjoaemeeoaaGreatDoorBoxC
import Derived.Test.YtgjebjoaemeeoaaGreatDoorKept
import Derived.Deep.RegionHeld3
namespace Go.Proofs.YtgjebjoaemeeoaaGreatDoor.kit
open Go.ChangeShapes Go.WideShapes Go.ChangeAt Go.RowKit
set_option linter.unusedVariables false

theorem quiet_eq {P : Program} {f : FuncId} {args : Array Value} {w : World} {n : Nat} {v : Value}
    (h : Calls P f args (w.drewN n) fun e w' => e = .returned v ∧ w.drewN n = w') : Calls P f args (w.drewN n) fun e w'' => e = .returned v ∧ ∃ m, w'' = w.drewN m :=
  h.mono fun _ _ ⟨he, hm⟩ => ⟨he, n, hm.symm⟩
/-- the i-th number is a server above the one before it -/
def okAt (l : List Int) (i : Nat) : Bool := decide (0 ≤ l.getD i 0 ∧ l.getD i 0 ≤ 4 ∧ (0 < i → l.getD (i - 1) 0 < l.getD i 0))
def are (l : List Int) : Bool := decide (∀ i, i < l.length → okAt l i = true)
theorem are_true {l : List Int} (h : ∀ i, i < l.length → okAt l i = true) : are l = true := decide_eq_true h
theorem are_false {l : List Int} {i : Nat} (hi : i < l.length) (h : okAt l i = false) : are l = false := decide_eq_false fun hh => by rw [hh i hi] at h; cases h
set_option maxRecDepth 100000 in
theorem specAre_any (a : Option Addr) (c : Nat) (l : List Int) (w : World) (hl : l.length ≤ 4194304) (ha : At w a l) :
    Calls Tryz.prog 54 #[.slice a l.length c] w fun e w' => e = .returned (.bool (are l)) ∧ Drawn w w' := by
  have HA := Lib.hid ha
  clear ha
  go_enter Tryz.func54, Tryz.ntmps54
  go_wp2_with fail
  go_loopw [3] (fun i wr => ∃ k : Nat, k ≤ l.length ∧ i = .int .i64 k ∧ Hid (∀ j, j < k → okAt l j = true) ∧ Hid (Drawn w wr)) (fun i _ => l.length - (intOf i).toNat)
  case atStart => exact ⟨0, Nat.zero_le _, rfl, Lib.hid (fun j h => by omega), Lib.hid (Drawn.refl _)⟩
  case round =>
    obtain ⟨k, hk, rfl, HE, HQ⟩ := hrel
    by_cases hlt : k < l.length
    · obtain ⟨x, rfl, _, hc1⟩ := HA.out k hlt
      have hc1 := HQ.out.cell hc1
      by_cases hin : 0 ≤ l.getD k 0 ∧ l.getD k 0 ≤ 4
      · by_cases h0 : 0 < k
        · obtain ⟨x', hx', _, hc2⟩ := HA.out (k - 1) (by omega)
          have hc2 := HQ.out.cell hc2
          obtain rfl : x = x' := by cases hx'; rfl
          have g2 : ((k : Int) - 1).toNat = k - 1 := by omega
          have g3 : IntKind.i64.wrap ((k : Int) - 1) = (k : Int) - 1 := IntWalk.i64_in _ (by omega)
          have g4 : (0 : Int) ≤ (k : Int) - 1 := by omega
          have g5 : (1 : Int) ≤ (k : Int) := by omega
          have g6 : (k : Int) - 1 < (l.length : Int) := by omega
          have g7 : (0 : Int) < (k : Int) := by omega
          by_cases hz : l.getD (k - 1) 0 < l.getD k 0
          · have HE2 := Lib.hid (show ∀ j, j < k + 1 → okAt l j = true from fun j hj => by
              by_cases e : j = k
              · subst e; exact decide_eq_true ⟨hin.1, hin.2, fun _ => hz⟩
              · exact HE.out j (by omega))
            generalize l.getD k 0 = z at *
            generalize l.getD (k - 1) 0 = y at *
            have C1 := fun W => Lib.hid (in_true z 0 4 W hin.1 hin.2)
            have g1 : decide (y ≥ z) = false := by simp; omega
            clear hz hin hx'
            go_wp2_with fail
            go_quiet ((go_at_call 53; exact quiet_eq (C1 _).out))
            clear g1 g2 g3 g4 g5 g6 g7
            go_wp2_with fail
            go_roundw
            case rel => exact ⟨k + 1, by omega, by go_num, HE2, Lib.hid (HQ.out.more _)⟩
            case measure => simp [intOf]; omega
          · have HF := Lib.hid (show are l = false from are_false hlt (decide_eq_false (fun h => hz (h.2.2 h0))))
            generalize l.getD k 0 = z at *
            generalize l.getD (k - 1) 0 = y at *
            have C1 := fun W => Lib.hid (in_true z 0 4 W hin.1 hin.2)
            have g1 : decide (y ≥ z) = true := by simp; omega
            clear hz hin hx'
            go_wp2_with fail
            go_quiet ((go_at_call 53; exact quiet_eq (C1 _).out))
            clear g1 g2 g3 g4 g5 g6 g7
            go_wp2_with fail
            go_ret
            exact ⟨by rw [HF.out]; rfl, HQ.out.more _⟩
        · have HE2 := Lib.hid (show ∀ j, j < k + 1 → okAt l j = true from fun j hj => by
              by_cases e : j = k
              · subst e; exact decide_eq_true ⟨hin.1, hin.2, fun h => absurd h h0⟩
              · exact HE.out j (by omega))
          generalize l.getD k 0 = z at *
          have C1 := fun W => Lib.hid (in_true z 0 4 W hin.1 hin.2)
          have g1 : decide ((k : Int) > 0) = false := by simp; omega
          clear hin
          go_wp2_with fail
          go_quiet ((go_at_call 53; exact quiet_eq (C1 _).out))
          clear g1
          go_wp2_with fail
          go_roundw
          case rel => exact ⟨k + 1, by omega, by go_num, HE2, Lib.hid (HQ.out.more _)⟩
          case measure => simp [intOf]; omega
      · have HF := Lib.hid (show are l = false from are_false hlt (decide_eq_false (fun h => hin ⟨h.1, h.2.1⟩)))
        generalize l.getD k 0 = z at *
        have C1 := fun W => Lib.hid (in_false z 0 4 W (by omega))
        clear hin
        go_wp2_with fail
        go_quiet ((go_at_call 53; exact quiet_eq (C1 _).out))
        go_wp2_with fail
        go_ret
        exact ⟨by rw [HF.out]; rfl, HQ.out.more _⟩
    · have HF := Lib.hid (show are l = true from are_true (fun i hi => HE.out i (by omega)))
      go_wp2_with fail
      go_ret
      exact ⟨by rw [HF.out]; rfl, HQ.out⟩
theorem specAreServers (b : Nat) (v : Value) (l : List Int) (w : World) (h : l.length ≤ 4194304) (o : OwnI b w v l) :
    Calls Tryz.prog 54 #[v] w fun e w' => e = .returned (.bool (are l)) ∧ Below w.heap.size w w' := by
  obtain ⟨a, c, rfl, _, _, at1, _⟩ := o.form
  exact (specAre_any a c l w h at1).mono fun e w' ⟨he, hd⟩ => ⟨he, hd.below _⟩
theorem implIsServer (id : Int) (w : World) : Calls Tryz.prog 103 #[.int .i64 id] w fun e w' => e = .returned (.bool (decide (0 ≤ id ∧ id ≤ 4))) ∧ w = w' := by
  by_cases h0 : 0 ≤ id
  · by_cases h1 : id ≤ 4
    · have HF := Lib.hid (show decide (0 ≤ id ∧ id ≤ 4) = true from decide_eq_true ⟨h0, h1⟩)
      have g1 : decide (id < 5) = true := decide_eq_true (by omega)
      go_enter Tryz.func103, Tryz.ntmps103
      go_wp2_with fail
      go_ret
      exact ⟨by rw [HF.out]; rfl, rfl⟩
    · have HF := Lib.hid (show decide (0 ≤ id ∧ id ≤ 4) = false from decide_eq_false (fun h => h1 h.2))
      have g1 : decide (id < 5) = false := decide_eq_false (by omega)
      clear h1
      go_enter Tryz.func103, Tryz.ntmps103
      go_wp2_with fail
      go_ret
      exact ⟨by rw [HF.out]; rfl, rfl⟩
  · have HF := Lib.hid (show decide (0 ≤ id ∧ id ≤ 4) = false from decide_eq_false (fun h => h0 h.1))
    have g0 : decide (0 ≤ id) = false := decide_eq_false h0
    clear h0
    go_enter Tryz.func103, Tryz.ntmps103
    go_wp2_with fail
    go_ret
    exact ⟨by rw [HF.out]; rfl, rfl⟩
theorem isServer_yes {id : Int} (h : 0 ≤ id ∧ id ≤ 4) (w : World) : Calls Tryz.prog 103 #[.int .i64 id] w fun e w' => e = .returned (.bool true) ∧ w = w' := by
  have := implIsServer id w; rw [decide_eq_true h] at this; exact this
theorem isServer_no {id : Int} (h : ¬ (0 ≤ id ∧ id ≤ 4)) (w : World) : Calls Tryz.prog 103 #[.int .i64 id] w fun e w' => e = .returned (.bool false) ∧ w = w' := by
  have := implIsServer id w; rw [decide_eq_false h] at this; exact this
set_option maxRecDepth 100000 in
theorem add_out (p : Addr) (id : Int) (m : Nat) (w : World) (h : id < 0 ∨ 5 ≤ id) :
    Calls Tryz.prog 82 #[.pointer (some p), .int .i64 id] w fun e w' => e = .returned (.bool false) ∧ w = w' := by
  have J := Lib.hid (isServer_no (id := id) (by omega) w)
  clear h
  go_enter Tryz.func82, Tryz.ntmps82
  go_wp2_with (go_at_call 103; refine (J.out).mono ?_; rintro e w1 ⟨rfl, rfl⟩)
  go_ret
  exact ⟨rfl, rfl⟩
theorem shr_zero {m id : Nat} (h : m / 2 ^ id = 0) : (((m : Int) / 2 ^ id) != 0) = false := by
  have e : (m : Int) / 2 ^ id = ((m / 2 ^ id : Nat) : Int) := by rw [Int.natCast_ediv, Int.natCast_pow]; rfl
  rw [e, h]; rfl
theorem shr_pos {m id : Nat} (h : 0 < m / 2 ^ id) : (((m : Int) / 2 ^ id) != 0) = true := by
  have e : (m : Int) / 2 ^ id = ((m / 2 ^ id : Nat) : Int) := by rw [Int.natCast_ediv, Int.natCast_pow]; rfl
  rw [e, bne_iff_ne]; omega
theorem or_bit {m id : Nat} (hm : m < 32) (h : id < 5) : bits .or .u8 (m : Int) ((2 : Int) ^ id % 256) = ((m ||| 2 ^ id : Nat) : Int) := by
  have h : ∀ m : Nat, m < 32 → ∀ id : Nat, id < 5 → bits .or .u8 (m : Int) ((2 : Int) ^ id % 256) = ((m ||| 2 ^ id : Nat) : Int) := by decide +kernel
  exact h m hm id (by assumption)
/-- the numbers of the bits of m -/
def bitsOf (m : Nat) : List Int := ((List.range 5).filter fun i => m.testBit i).map fun i => ((i : Nat) : Int)
theorem bits_add {m id : Nat} (hm : m < 32) (h : id < 5) (h0 : m / 2 ^ id = 0) : bitsOf (m ||| 2 ^ id) = bitsOf m ++ [(id : Int)] ∧ (m ||| 2 ^ id) < 32 ∧ (bitsOf m).getLastD (-1) < id := by
  have h : ∀ m : Nat, m < 32 → ∀ id : Nat, id < 5 → m / 2 ^ id = 0 → bitsOf (m ||| 2 ^ id) = bitsOf m ++ [(id : Int)] ∧ (m ||| 2 ^ id) < 32 ∧ (bitsOf m).getLastD (-1) < id := by decide +kernel
  exact h m hm id (by assumption) h0
theorem bits_not {m id : Nat} (hm : m < 32) (h : id < 5) (h0 : 0 < m / 2 ^ id) : (id : Int) ≤ (bitsOf m).getLastD (-1) := by
  have h : ∀ m : Nat, m < 32 → ∀ id : Nat, id < 5 → 0 < m / 2 ^ id → (id : Int) ≤ (bitsOf m).getLastD (-1) := by decide +kernel
  exact h m hm id (by assumption) h0
theorem bits_are {m : Nat} (hm : m < 32) : are (bitsOf m) = true := by
  have h : ∀ m : Nat, m < 32 → are (bitsOf m) = true := by decide +kernel
  exact h m hm
theorem one_row (w : World) (v : Value) (t : TypeId) : (w.alloc (.cells #[v] t)).rowIs w.heap.size t 1 (fun _ => v) := by
  have h := World.rowIs_alloc w #[v] t (fun _ => v) (by
    intro i hi
    have : i = 0 := by simp at hi; omega
    subst this
    rfl)
  exact h
theorem one_eq {u v : Value} : ∀ i, i < 1 → (if i = 0 then v else u) = v := by
  intro i hi
  rw [if_pos (by omega)]
theorem last_take (l : List Int) (k : Nat) (hk : k ≤ l.length) : (l.take k).getLastD (-1) = if k = 0 then -1 else l.getD (k - 1) 0 := by
  by_cases h0 : k = 0
  · subst h0; rfl
  · have hne : l.take k ≠ [] := by intro e; have := congrArg List.length e; rw [List.length_take, Nat.min_eq_left hk] at this; exact h0 this
    rw [if_neg h0, List.getLastD_eq_getLast?, List.getLast?_eq_getElem?]
    simp only [List.length_take, Nat.min_eq_left hk]
    rw [List.getElem?_take_of_lt (show k - 1 < k by omega)]
    simp [List.getD, show k - 1 < l.length by omega]
theorem are_lt {l : List Int} (h : are l = true) : ∀ i, i < l.length → (i : Int) ≤ l.getD i 0 ∧ l.getD i 0 ≤ 4 := by
  have h' : ∀ i, i < l.length → okAt l i = true := of_decide_eq_true h
  intro i
  induction i with
  | zero => intro hi; have := of_decide_eq_true (h' 0 hi); exact ⟨this.1, this.2.1⟩
  | succ i ih => intro hi; have a := ih (by omega); have b := of_decide_eq_true (h' (i + 1) hi); have c := b.2.2 (by omega); rw [show i + 1 - 1 = i by omega] at c; exact ⟨by omega, b.2.1⟩
theorem are_len {l : List Int} (h : are l = true) : l.length ≤ 5 := by
  by_cases h6 : 5 < l.length
  · have := are_lt h 5 h6; omega
  · omega
set_option maxRecDepth 100000 in
theorem add_not (p : Addr) (id m : Nat) (w : World) (h : id < 5) (hc : w.cell? p = some (.int .u8 m)) (hm : 0 < m / 2 ^ id) :
    Calls Tryz.prog 82 #[.pointer (some p), .int .i64 id] w fun e w' => e = .returned (.bool false) ∧ w = w' := by
  have J := Lib.hid (isServer_yes (id := (id : Int)) (by omega) w)
  have g0 : decide ((id : Int) < 0) = false := by simp
  have g2 := shr_pos hm
  clear hm
  go_enter Tryz.func82, Tryz.ntmps82
  go_wp2_with (go_at_call 103; refine (J.out).mono ?_; rintro e w1 ⟨rfl, rfl⟩)
  go_ret
  exact ⟨rfl, rfl⟩
set_option maxRecDepth 100000 in
theorem add_yes (p : Addr) (id m : Nat) (w : World) (h : id < 5) (hc : w.cell? p = some (.int .u8 m)) (hf : w.frozen? p = false) (hm : m / 2 ^ id = 0) (hm2 : m < 32) :
    Calls Tryz.prog 82 #[.pointer (some p), .int .i64 id] w fun e w' => e = .returned (.bool true) ∧ w' = (w.setCell p (.int .u8 ((m ||| 2 ^ id : Nat) : Int))).drew := by
  have J := Lib.hid (isServer_yes (id := (id : Int)) (by omega) w)
  have g0 : decide ((id : Int) < 0) = false := by simp
  have g2 := shr_zero hm
  clear hm
  go_enter Tryz.func82, Tryz.ntmps82
  go_wp2_with (go_at_call 103; refine (J.out).mono ?_; rintro e w1 ⟨rfl, rfl⟩)
  go_region
  go_wp2_with fail
  go_ret
  exact ⟨rfl, by rw [or_bit hm2 h]⟩
/-- the set of bits of a set -/
def maskOf (l : List Int) : Nat := ((List.range 32).find? fun m => decide (bitsOf m = l)).getD 0
theorem mask_lt (l : List Int) : maskOf l < 32 := by
  unfold maskOf
  cases h : (List.range 32).find? fun m => decide (bitsOf m = l) with
  | none => simp
  | some m =>
    have := List.mem_of_find?_eq_some h
    simpa using this
theorem bits_inj {m n : Nat} (hm : m < 32) (hn : n < 32) (h : bitsOf m = bitsOf n) : m = n := by
  have key : ∀ m : Nat, m < 32 → ∀ n : Nat, n < 32 → bitsOf m = bitsOf n → m = n := by decide +kernel
  exact key m hm n hn h
theorem mask_bits {m : Nat} (hm : m < 32) : maskOf (bitsOf m) = m := by
  unfold maskOf
  cases h : (List.range 32).find? fun k => decide (bitsOf k = bitsOf m) with
  | none =>
    have := List.find?_eq_none.1 h m (by simpa using hm)
    simp at this
  | some k =>
    have h1 := List.mem_of_find?_eq_some h
    have h2 := List.find?_some h
    simp only [decide_eq_true_eq] at h2
    have h3 : k < 32 := by simpa using h1
    exact bits_inj h3 hm h2
theorem mask_not {l : List Int} (h : are l = false) : maskOf l = 0 := by
  unfold maskOf
  cases hf : (List.range 32).find? fun k => decide (bitsOf k = l) with
  | none => rfl
  | some k =>
    have h1 := List.mem_of_find?_eq_some hf
    have h2 := List.find?_some hf
    simp only [decide_eq_true_eq] at h2
    have h3 : k < 32 := by simpa using h1
    rw [← h2, bits_are h3] at h
    cases h
theorem bit_and {m k : Nat} (hm : m < 32) (h : k < 5) : bits .and .u8 ((m : Int) / 2 ^ k) 1 = if m.testBit k = true then 1 else 0 := by
  have h : ∀ m : Nat, m < 32 → ∀ k : Nat, k < 5 → bits .and .u8 ((m : Int) / 2 ^ k) 1 = if m.testBit k = true then 1 else 0 := by decide +kernel
  exact h m hm k (by assumption)
theorem shr_big {m id : Nat} (hm : m < 32) (h : 8 < id) : Op.shift .shr .u8 (m : Int) .i64 (id : Int) = pure (.int .u8 0) := by
  have e : min ((id : Int)).toNat (IntKind.bits .u8) = 8 := by
    rw [Int.toNat_natCast]
    show min id 8 = 8
    omega
  have h : ∀ m : Nat, m < 32 → (m : Int).fdiv (2 ^ 8) = 0 := by decide +kernel
  unfold Op.shift
  rw [if_neg (by omega), e]
  show (pure (.int .u8 ((m : Int).fdiv (2 ^ 8))) : Sem Value) = _
  rw [h m hm]
theorem and_big {m id : Nat} (hm : m < 32) (h1 : 5 ≤ id) (h2 : id ≤ 8) : bits .and .u8 ((m : Int) / 2 ^ id) 1 = 0 := by
  have h : ∀ m : Nat, m < 32 → ∀ id : Nat, id < 9 → 5 ≤ id → bits .and .u8 ((m : Int) / 2 ^ id) 1 = 0 := by decide +kernel
  exact h m hm id (by omega) h1
theorem bits_mem {m : Nat} {i : Int} : i ∈ bitsOf m ↔ ∃ k : Nat, k < 5 ∧ i = (k : Int) ∧ m.testBit k = true := by
  unfold bitsOf
  simp only [List.mem_map, List.mem_filter, List.mem_range]
  exact ⟨fun ⟨k, ⟨h1, h2⟩, e⟩ => ⟨k, h1, e.symm, h2⟩, fun ⟨k, h1, e, h2⟩ => ⟨k, ⟨h1, h2⟩, e.symm⟩⟩
theorem bits_mem' {m k : Nat} (h : k < 5) : decide ((k : Int) ∈ bitsOf m) = m.testBit k := by
  rw [Bool.eq_iff_iff, decide_eq_true_iff, bits_mem]
  exact ⟨fun ⟨j, _, e, h2⟩ => by have : k = j := by omega
                                 rw [this]; exact h2, fun h2 => ⟨k, h, rfl, h2⟩⟩
set_option maxRecDepth 100000 in
theorem implHasBit (m : Nat) (i : Int) (w : World) (hm : m < 32) :
    Calls Tryz.prog 101 #[.int .u8 m, .int .i64 i] w fun e w' => e = .returned (.bool (decide (i ∈ bitsOf m))) ∧ w = w' := by
  by_cases h0 : 0 ≤ i
  · obtain ⟨id, rfl⟩ := Int.eq_ofNat_of_zero_le h0
    have g0 : decide ((0 : Int) ≤ (id : Int)) = true := decide_eq_true h0
    by_cases h5 : id < 5
    · have HF := Lib.hid (bits_mem' (m := m) h5)
      have e1 := bit_and hm h5
      cases ht : m.testBit id with
      | true =>
        rw [ht] at e1 HF
        rw [if_pos rfl] at e1
        clear ht h0
        go_enter Tryz.func101, Tryz.ntmps101
        go_wp2_with fail
        go_ret
        exact ⟨by rw [HF.out]; rfl, rfl⟩
      | false =>
        rw [ht] at e1 HF
        rw [if_neg (by simp)] at e1
        clear ht h0
        go_enter Tryz.func101, Tryz.ntmps101
        go_wp2_with fail
        go_ret
        exact ⟨by rw [HF.out]; rfl, rfl⟩
    · have HF := Lib.hid (show decide ((id : Int) ∈ bitsOf m) = false from decide_eq_false (fun h => by obtain ⟨k, h1, e, _⟩ := bits_mem.1 h; omega))
      by_cases h8 : id ≤ 8
      · have e1 := and_big hm (by omega) h8
        clear h0
        go_enter Tryz.func101, Tryz.ntmps101
        go_wp2_with fail
        go_ret
        exact ⟨by rw [HF.out]; rfl, rfl⟩
      · have e1 := shr_big hm (show 8 < id by omega)
        have e2 : bits .and .u8 0 1 = 0 := by decide
        clear h0
        go_enter Tryz.func101, Tryz.ntmps101
        go_wp2_with fail
        go_ret
        exact ⟨by rw [HF.out]; rfl, rfl⟩
  · have HF := Lib.hid (show decide (i ∈ bitsOf m) = false from decide_eq_false (fun h => by obtain ⟨k, h1, e, _⟩ := bits_mem.1 h; omega))
    have g0 : decide ((0 : Int) ≤ i) = false := decide_eq_false h0
    clear h0
    go_enter Tryz.func101, Tryz.ntmps101
    go_wp2_with fail
    go_ret
    exact ⟨by rw [HF.out]; rfl, rfl⟩
set_option maxRecDepth 100000 in
theorem implSetOf (a : Option Addr) (c : Nat) (l : List Int) (w : World) (hl : l.length ≤ 4194304) (ha : At w a l) :
    Calls Tryz.prog 77 #[.slice a l.length c] w fun e w' => e = .returned (.tuple #[.int .u8 (maskOf l), .bool (are l)]) ∧ Below w.heap.size w w' := by
  have HA := Lib.hid ha
  clear ha
  go_enter Tryz.func77, Tryz.ntmps77
  go_wp2_with fail
  go_loopw [9] (fun i wr => ∃ k m : Nat, k ≤ l.length ∧ i = .int .i64 k ∧ m < 32 ∧ Hid (l.take k = bitsOf m) ∧ wr.rowIs w.heap.size 81 1 (fun _ => .int .u8 m) ∧ Below w.heap.size w wr) (fun i _ => l.length - (intOf i).toNat)
  case atStart => exact ⟨0, 0, Nat.zero_le _, rfl, by omega, Lib.hid (by rfl), one_row w _ _, (Below.refl _ _).alloc (Nat.le_refl _) _⟩
  case round =>
    obtain ⟨k, m, hk, rfl, hm, HE, hrow, hb⟩ := hrel
    have hcell := hrow.cell (i := 0) (by omega)
    have hfr := hrow.frozen 0
    by_cases hlt : k < l.length
    · obtain ⟨x, rfl, hx, hc⟩ := HA.out k hlt
      have hc' : wr.cell? (x.add k) = some (.int .i64 (l.getD k 0)) := (hb.cell (p := x.add k) (by unfold Addr.add; split <;> exact hx)).trans hc
      have hlast := last_take l k hk
      rw [HE.out] at hlast
      have HR := Lib.hid hrow
      clear hrow hc
      by_cases hin : 0 ≤ l.getD k 0 ∧ l.getD k 0 < 5
      · obtain ⟨id, hid⟩ := Int.eq_ofNat_of_zero_le hin.1
        have h5 : id < 5 := by omega
        by_cases h0 : m / 2 ^ id = 0
        · have C1 := Lib.hid (add_yes ⟨w.heap.size, 0, none⟩ id m wr h5 hcell hfr h0 hm)
          obtain ⟨b1, b2, b3⟩ := bits_add hm h5 h0
          have HE2 := Lib.hid (show l.take (k + 1) = bitsOf (m ||| 2 ^ id) by rw [take_snocI l k hlt, HE.out, b1, hid])
          rw [hid] at hc'
          clear b1 b3 h0 hlast hid hin hcell hfr
          go_wp2_with (go_at_call 82; refine (C1.out).mono ?_; rintro e w1 ⟨rfl, rfl⟩)
          go_roundw
          case rel => exact ⟨k + 1, m ||| 2 ^ id, by omega, by go_num, b2, HE2, ((HR.out.set 0 _).drew).congr one_eq, (hb.setCell (Nat.le_refl _) _).drew⟩
          case measure => simp [intOf]; omega
        · have C1 := Lib.hid (add_not ⟨w.heap.size, 0, none⟩ id m wr h5 hcell (Nat.pos_of_ne_zero h0))
          have HF := Lib.hid (show are l = false from are_false hlt (decide_eq_false (fun h => by
            have b := bits_not hm h5 (Nat.pos_of_ne_zero h0)
            rw [hlast] at b
            split at b
            · omega
            · have := h.2.2 (by omega); omega)))
          rw [hid] at hc'
          clear h0 hlast hid hin hcell hfr
          go_wp2_with (go_at_call 82; refine (C1.out).mono ?_; rintro e w1 ⟨rfl, rfl⟩)
          go_ret2
          exact ⟨by rw [HF.out, mask_not HF.out]; rfl, hb⟩
      · have C1 := Lib.hid (add_out ⟨w.heap.size, 0, none⟩ (l.getD k 0) m wr (by omega))
        have HF := Lib.hid (show are l = false from are_false hlt (decide_eq_false (fun h => by omega)))
        generalize l.getD k 0 = z at *
        clear hlast hin hcell hfr
        go_wp2_with (go_at_call 82; refine (C1.out).mono ?_; rintro e w1 ⟨rfl, rfl⟩)
        go_ret2
        exact ⟨by rw [HF.out, mask_not HF.out]; rfl, hb⟩
    · have HF := Lib.hid (show are l = true ∧ maskOf l = m by
        have h := HE.out
        rw [List.take_of_length_le (by omega)] at h
        rw [h]
        exact ⟨bits_are hm, mask_bits hm⟩)
      clear hrow
      go_wp2_with fail
      go_ret2
      exact ⟨by rw [HF.out.1, HF.out.2]; rfl, hb⟩
set_option maxRecDepth 100000 in
theorem implAre_any (a : Option Addr) (c : Nat) (l : List Int) (w : World) (hl : l.length ≤ 4194304) (ha : At w a l) :
    Calls Tryz.prog 102 #[.slice a l.length c] w fun e w' => e = .returned (.bool (are l)) ∧ Below w.heap.size w w' := by
  have J := Lib.hid (implSetOf a c l w hl ha)
  clear ha
  go_enter Tryz.func102, Tryz.ntmps102
  go_wp2_with fail
  refine J.out.mono ?_
  rintro e w1 ⟨rfl, hb⟩
  go_wp2_with fail
  go_ret
  exact ⟨rfl, hb⟩
theorem implAreServers (b : Nat) (v : Value) (l : List Int) (w : World) (h : l.length ≤ 4194304) (o : OwnI b w v l) :
    Calls Tryz.prog 102 #[v] w fun e w' => e = .returned (.bool (are l)) ∧ Below w.heap.size w w' := by
  obtain ⟨a, c, rfl, _, _, at1, _⟩ := o.form
  exact (implAre_any a c l w h at1).mono fun e w' ⟨he, hd⟩ => ⟨he, hd⟩
set_option maxRecDepth 100000 in
theorem specHas_any (a : Option Addr) (c : Nat) (l : List Int) (x : Int) (w : World) (hl : l.length ≤ 4194304) (ha : At w a l) :
    Calls Tryz.prog 55 #[.slice a l.length c, .int .i64 x] w fun e w' => e = .returned (.bool (decide (x ∈ l))) ∧ w = w' := by
  have HA := Lib.hid ha
  clear ha
  go_enter Tryz.func55, Tryz.ntmps55
  go_wp2_with fail
  go_loop [5] (fun i => ∃ k : Nat, k ≤ l.length ∧ i = .int .i64 k ∧ Hid (x ∉ l.take k)) (fun i => l.length - (intOf i).toNat)
  case atStart => exact ⟨0, Nat.zero_le _, rfl, Lib.hid (by simp)⟩
  case round =>
    obtain ⟨k, hk, rfl, HE⟩ := hrel
    by_cases hlt : k < l.length
    · obtain ⟨p, rfl, _, hc⟩ := HA.out k hlt
      have hget : l.getD k 0 = l[k] := by simp [List.getD, hlt]
      by_cases hz : l.getD k 0 = x
      · have HF := Lib.hid (show x ∈ l by rw [← hz, hget]; exact List.getElem_mem hlt)
        rw [hz] at hc
        clear hz hget
        go_wp2_with fail
        go_ret
        exact ⟨by rw [decide_eq_true HF.out]; rfl, rfl⟩
      · have HF := Lib.hid (show x ∉ l.take (k + 1) from by
          rw [take_snocI l k hlt, List.mem_append]
          intro h
          rcases h with h | h
          · exact HE.out h
          · exact hz (List.mem_singleton.1 h).symm)
        generalize l.getD k 0 = z at *
        have g : (z == x) = false := by rw [beq_eq_false_iff_ne]; exact hz
        clear hz hget
        go_wp2_with fail
        go_round
        case rel => exact ⟨k + 1, by omega, by go_num, HF⟩
        case measure => simp [intOf]; omega
    · have HF := Lib.hid (show x ∉ l by have h := HE.out; rw [List.take_of_length_le (by omega)] at h; exact h)
      go_wp2_with fail
      go_ret
      exact ⟨by rw [decide_eq_false HF.out]; rfl, rfl⟩
theorem specHasServer (b : Nat) (v : Value) (l : List Int) (x : Int) (w : World) (h : l.length ≤ 4194304) (o : OwnI b w v l) :
    Calls Tryz.prog 55 #[v, .int .i64 x] w fun e w' => e = .returned (.bool (decide (x ∈ l))) ∧ Below w.heap.size w w' := by
  obtain ⟨a, c, rfl, _, _, at1, _⟩ := o.form
  exact (specHas_any a c l x w h at1).mono fun e w' ⟨he, hd⟩ => ⟨he, hd ▸ Below.refl _ _⟩
theorem OwnI.cells {base : Nat} {w : World} {l : List Int} {g c : Nat} (h : OwnI base w (.slice (some ⟨g, 0, none⟩) l.length c) l) : ∀ j, j < l.length → w.cell? ⟨g, 0 + j, none⟩ = some (.int .i64 (l.getD j 0)) := fun j hj => by
  rw [Nat.zero_add, h.row.cellAt j (by omega), List.getElem?_map, List.getElem?_eq_getElem hj]
  simp [List.getD, hj]
set_option maxRecDepth 100000 in
theorem implEq_any (base1 base2 : Nat) (v1 v2 : Value) (l1 l2 : List Int) (w : World) (h1 : l1.length ≤ 4194304) (h2 : l2.length ≤ 4194304) (hown1 : OwnI base1 w v1 l1) (hown2 : OwnI base2 w v2 l2) :
    Calls Tryz.prog 60 #[v1, v2] w fun e w' => e = .returned (.bool (decide (l1 = l2))) ∧ Drawn w w' := by
  have key : Calls Tryz.prog 61 #[v1, v2] w fun e w' => e = .returned (.bool (decide (l1 = l2))) ∧ Drawn w w' := by
    by_cases h01 : 0 < l1.length
    · obtain ⟨g, c, rfl, hc1, hc2, _, _⟩ := hown1.there h01
      by_cases h02 : 0 < l2.length
      · obtain ⟨g2, c2, rfl, _, _, _, _⟩ := hown2.there h02
        refine (Tryz.slices_Equal_int g 0 l1.length c g2 0 l2.length c2 l1 l2 w (Nat.le_refl _) (Nat.le_refl _) (by omega) (by omega) hown1.cells hown2.cells).mono ?_
        rintro e w1 ⟨rfl, q, rfl⟩
        refine ⟨?_, q, rfl⟩
        rw [List.take_length, List.take_length]
        congr 2
        rw [Bool.eq_iff_iff]; simp
      · obtain rfl : l2 = [] := List.eq_nil_of_length_eq_zero (by omega)
        obtain ⟨a2, c2, rfl, _⟩ := hown2.form
        refine (Tryz.slices_Equal_int_lens _ a2 l1.length c 0 c2 w (by omega)).mono ?_
        rintro e w1 ⟨rfl, rfl⟩
        exact ⟨by rw [decide_eq_false]; intro e; rw [e] at h01; simp at h01, Drawn.refl _⟩
    · obtain rfl : l1 = [] := List.eq_nil_of_length_eq_zero (by omega)
      obtain ⟨a1, c1, rfl, _⟩ := hown1.form
      obtain ⟨a2, c2, rfl, _⟩ := hown2.form
      refine (Tryz.slices_Equal_int_empty a1 a2 c1 l2.length c2 w (by omega)).mono ?_
      rintro e w1 ⟨rfl, rfl⟩
      refine ⟨?_, Drawn.refl _⟩
      congr 2
      rw [decide_eq_decide, List.length_eq_zero_iff]
      exact ⟨fun h => h.symm, fun h => h.symm⟩
  have C1 := Lib.hid key
  clear key
  generalize decide (l1 = l2) = b at *
  go_enter Tryz.func60, Tryz.ntmps60
  go_wp2_with (refine (C1.out).mono ?_; rintro e w1 ⟨rfl, hd⟩)
  go_ret
  exact ⟨rfl, hd⟩
theorem implEqualServers (b1 : Nat) (v1 : Value) (l1 : List Int) (b2 : Nat) (v2 : Value) (l2 : List Int) (w : World) (h1 : l1.length ≤ 4194304) (o1 : OwnI b1 w v1 l1) (h2 : l2.length ≤ 4194304) (o2 : OwnI b2 w v2 l2) :
    Calls Tryz.prog 60 #[v1, v2] w fun e w' => e = .returned (.bool (decide (l1 = l2))) ∧ Below w.heap.size w w' :=
  (implEq_any b1 b2 v1 v2 l1 l2 w h1 h2 o1 o2).mono fun e w' ⟨he, hd⟩ => ⟨he, hd.below _⟩
end Go.Proofs.YtgjebjoaemeeoaaGreatDoor.kit
namespace Go.Proofs.YtgjebjoaemeeoaaGreatDoor.kit
open Go.ChangeShapes Go.WideShapes Go.ChangeAt Go.RowKit
set_option linter.unusedVariables false
set_option linter.unusedSimpArgs false

theorem infoU8b : (Tryz.prog.info? 5).map (fun i => (i.zero, i.size, i.bytes)) = some (some (.int .u8 0), 1, 1) := by kernel_rfl
/-- a digit for each number -/
def digs (l : List Int) : List UInt8 := l.map fun x => UInt8.ofNat (48 + x.toNat)
def fmtS (l : List Int) : List UInt8 := if are l = true then (if l.length = 0 then [110, 111, 110, 101] else digs l) else []
theorem digs_snoc (l : List Int) (k : Nat) (h : k < l.length) : digs (l.take (k + 1)) = digs (l.take k) ++ [UInt8.ofNat (48 + (l.getD k 0).toNat)] := by
  unfold digs; rw [take_snocI l k h, List.map_append]; rfl
theorem digs_length (l : List Int) : (digs l).length = l.length := by simp [digs]
theorem itoa_digit (x : Int) (h0 : 0 ≤ x) (h1 : x ≤ 4) : Lib.itoa x = [UInt8.ofNat (48 + x.toNat)] := by
  unfold Lib.itoa; rw [if_neg (by omega)]; exact decDigits_small (by omega)
set_option maxRecDepth 100000 in
theorem specFmt_any (a : Option Addr) (c : Nat) (l : List Int) (w : World) (hl : l.length ≤ 4194304) (ha : At w a l) :
    Calls Tryz.prog 58 #[.slice a l.length c] w fun e w' => e = .returned (str (fmtS l)) ∧ Below w.heap.size w w' := by
  have C1 := Lib.hid (specAre_any a c l w hl ha)
  have HA := Lib.hid ha
  clear ha
  cases he : are l
  · rw [he] at C1
    have HF := Lib.hid (show fmtS l = [] by unfold fmtS; rw [he]; rfl)
    clear he
    go_enter Tryz.func58, Tryz.ntmps58
    go_wp2_with (go_at_call 54; refine (C1.out).mono ?_; rintro e w1 ⟨rfl, hd⟩)
    go_ret
    exact ⟨by rw [HF.out]; rfl, hd.below _⟩
  · rw [he] at C1
    by_cases h0 : l.length = 0
    · have HF := Lib.hid (show fmtS l = [110, 111, 110, 101] by unfold fmtS; rw [he, if_pos rfl, if_pos h0])
      clear he
      obtain rfl : l = [] := List.eq_nil_of_length_eq_zero h0
      go_enter Tryz.func58, Tryz.ntmps58
      go_wp2_with (go_at_call 54; refine (C1.out).mono ?_; rintro e w1 ⟨rfl, hd⟩)
      go_ret
      exact ⟨by rw [HF.out]; rfl, hd.below _⟩
    · have HF := Lib.hid (show fmtS l = digs l by unfold fmtS; rw [he, if_pos rfl, if_neg h0])
      have HL := Lib.hid (are_lt he)
      have h5 := are_len he
      have g0 : ((l.length : Int) == 0) = false := by rw [beq_eq_false_iff_ne]; omega
      clear he
      go_enter Tryz.func58, Tryz.ntmps58
      go_wp2_with (go_at_call 54; refine (C1.out).mono ?_; rintro e w1 ⟨rfl, hd⟩)
      have HB1 := Lib.hid (hd.below w.heap.size)
      clear hd g0
      go_loopw [3, 4] (fun s i wr => ∃ k : Nat, k ≤ l.length ∧ i = .int .i64 k ∧ s = str (digs (l.take k)) ∧ Below w.heap.size w wr) (fun _ i _ => l.length - (intOf i).toNat)
      case atStart => exact ⟨0, Nat.zero_le _, rfl, rfl, HB1.out⟩
      case round =>
        obtain ⟨k, hk, rfl, rfl, hb⟩ := hrel
        by_cases hlt : k < l.length
        · obtain ⟨p, rfl, hp, hc⟩ := HA.out k hlt
          have hc' : wr.cell? (p.add k) = some (.int .i64 (l.getD k 0)) := (hb.cell (p := p.add k) (by unfold Addr.add; split <;> exact hp)).trans hc
          obtain ⟨hx0, hx1⟩ := HL.out k hlt
          have C2 := Lib.hid (specFormatInt (l.getD k 0) wr (by omega) (by omega))
          rw [itoa_digit _ (by omega) (by omega)] at C2
          have HT := Lib.hid (digs_snoc l k hlt)
          have hlen : (digs (l.take k)).length ≤ 5 := by rw [digs_length, List.length_take]; omega
          have HB := Lib.hid hb
          clear hc hb hx0 hx1
          generalize l.getD k 0 = z at *
          go_wp2_with (go_at_call 57; refine (C2.out).mono ?_; rintro e w2 ⟨rfl, hb2⟩)
          go_roundw
          case rel => exact ⟨k + 1, by omega, by go_num, by rw [HT.out, ← str_app]; simp, HB.out.trans (hb2.mono HB.out.size)⟩
          case measure => simp [intOf]; omega
        · obtain rfl : k = l.length := by omega
          have HB := Lib.hid hb
          clear hlt hk hb
          go_wp2_with fail
          go_ret
          exact ⟨by rw [HF.out, List.take_length]; rfl, HB.out⟩
theorem specFormatServers (b : Nat) (v : Value) (l : List Int) (w : World) (h : l.length ≤ 4194304) (o : OwnI b w v l) :
    Calls Tryz.prog 58 #[v] w fun e w' => e = .returned (str (fmtS l)) ∧ Below w.heap.size w w' := by
  obtain ⟨a, c, rfl, _, _, at1, _⟩ := o.form
  exact specFmt_any a c l w h at1
set_option maxRecDepth 100000 in
theorem implFmt_any (a : Option Addr) (c : Nat) (l : List Int) (w : World) (hl : l.length ≤ 4194304) (ha : At w a l) :
    Calls Tryz.prog 80 #[.slice a l.length c] w fun e w' => e = .returned (str (fmtS l)) ∧ Below w.heap.size w w' := by
  have C1 := Lib.hid (implAre_any a c l w hl ha)
  have HA := Lib.hid ha
  clear ha
  cases he : are l
  · rw [he] at C1
    have HF := Lib.hid (show fmtS l = [] by unfold fmtS; rw [he]; rfl)
    clear he
    go_enter Tryz.func80, Tryz.ntmps80
    go_wp2_with (go_at_call 102; refine (C1.out).mono ?_; rintro e w1 ⟨rfl, hd⟩)
    go_ret
    exact ⟨by rw [HF.out]; rfl, hd⟩
  · rw [he] at C1
    by_cases h0 : l.length = 0
    · have HF := Lib.hid (show fmtS l = [110, 111, 110, 101] by unfold fmtS; rw [he, if_pos rfl, if_pos h0])
      clear he
      obtain rfl : l = [] := List.eq_nil_of_length_eq_zero h0
      go_enter Tryz.func80, Tryz.ntmps80
      go_wp2_with (go_at_call 102; refine (C1.out).mono ?_; rintro e w1 ⟨rfl, hd⟩)
      go_ret
      exact ⟨by rw [HF.out]; rfl, hd⟩
    · have HF := Lib.hid (show fmtS l = digs l by unfold fmtS; rw [he, if_pos rfl, if_neg h0])
      have HL := Lib.hid (are_lt he)
      have h5 := are_len he
      have g0 : ((l.length : Int) == 0) = false := by rw [beq_eq_false_iff_ne]; omega
      have hmk : ∀ W : World, (Instr.makeSlice 22 (.int .i64 0) (.int .i64 5)).run Tryz.prog W = .ok (.slice (some ⟨W.heap.size, 0, none⟩) 0 5) (W.alloc (.cells (madeCells #[.int .u8 0] 5) 5)) := fun _ => by kernel_rfl
      clear he
      go_enter Tryz.func80, Tryz.ntmps80
      go_wp2_with (go_at_call 102; refine (C1.out).mono ?_; rintro e w1 ⟨rfl, hd⟩)
      have HB1 := Lib.hid hd
      have hz1 := hd.size
      clear hd g0 hmk
      go_loopw [3, 15] (fun s i wr => ∃ k : Nat, k ≤ l.length ∧ i = .int .i64 k ∧ OwnB 5 w.heap.size wr s (digs (l.take k)) ∧ Below w.heap.size w wr) (fun _ i _ => l.length - (intOf i).toNat)
      case atStart => exact ⟨0, Nat.zero_le _, rfl, World.ownsRow_made _ _ 5 (by omega) (by unfold maxLen; omega) (by simp [size_madeCells]), HB1.out.alloc hz1 _⟩
      case round =>
        obtain ⟨k, hk, rfl, hown, hb⟩ := hrel
        by_cases hlt : k < l.length
        · obtain ⟨p, rfl, hp, hc⟩ := HA.out k hlt
          have hc' : wr.cell? (p.add k) = some (.int .i64 (l.getD k 0)) := (hb.cell (p := p.add k) (by unfold Addr.add; split <;> exact hp)).trans hc
          obtain ⟨hx0, hx1⟩ := HL.out k hlt
          have HT := Lib.hid (digs_snoc l k hlt)
          have hlen : (digs (l.take k)).length ≤ 5 := by rw [digs_length, List.length_take]; omega
          have HB := Lib.hid hb
          have hs := hb.size
          obtain ⟨z, hz⟩ := Int.eq_ofNat_of_zero_le (show 0 ≤ l.getD k 0 by omega)
          rw [hz] at hc' HT hx1
          have hw0 : IntKind.i64.wrap (48 + (z : Int)) = 48 + z := IntWalk.i64_in _ (by omega)
          have hw1 : IntKind.u8.wrap (48 + (z : Int)) = 48 + z := IntWalk.u8_in _ (by omega)
          clear hc hb hx0 hz
          go_wp2_with (at_builtin; refine wpList_push1 rfl _ _ 22 rfl w.heap.size 5 (.int .u8 0) 1 Tryz.underlying22 infoU8b rfl _ _ _ rfl hown.row _ 1 rfl (by rfl) (by omega) (by omega) hs ?_; intro v' w2 hown' hb2 hg2)
          go_roundw
          case rel => exact ⟨k + 1, by omega, by go_num, by rw [HT.out]; exact OwnB.snoc hown' (by simp; omega), HB.out.trans hb2⟩
          case measure => simp [intOf]; omega
        · obtain rfl : k = l.length := by omega
          rw [List.take_length] at hown
          have hcv := hown.conv (dst := 9) Tryz.underlying22 Tryz.underlying5 Tryz.underlying9
          have HB := Lib.hid hb
          clear hlt hk hb
          go_wp2_with fail
          go_ret
          exact ⟨by rw [HF.out]; rfl, HB.out⟩
theorem implFormatServers (b : Nat) (v : Value) (l : List Int) (w : World) (h : l.length ≤ 4194304) (o : OwnI b w v l) :
    Calls Tryz.prog 80 #[v] w fun e w' => e = .returned (str (fmtS l)) ∧ Below w.heap.size w w' := by
  obtain ⟨a, c, rfl, _, _, at1, _⟩ := o.form
  exact implFmt_any a c l w h at1
end Go.Proofs.YtgjebjoaemeeoaaGreatDoor.kit
namespace Go.Proofs.YtgjebjoaemeeoaaGreatDoor.kit
open Go.ChangeShapes Go.WideShapes Go.ChangeAt Go.RowKit
set_option linter.unusedVariables false
set_option linter.unusedSimpArgs false

def vals (bs : List UInt8) : List Int := bs.map fun b => (b.toNat : Int) - 48
def okB (bs : List UInt8) : Bool := decide (bs ≠ []) && are (vals bs)
def parseSok (bs : List UInt8) : Bool := decide (bs = [110, 111, 110, 101]) || okB bs
def parseS (bs : List UInt8) : List Int := if okB bs = true then vals bs else []
theorem vals_length (bs : List UInt8) : (vals bs).length = bs.length := by simp [vals]
theorem vals_get (bs : List UInt8) (k : Nat) (h : k < bs.length) : (vals bs).getD k 0 = (bs[k].toNat : Int) - 48 := by simp [vals, List.getD, h]
theorem vals_take (bs : List UInt8) (k : Nat) : vals (bs.take k) = (vals bs).take k := by simp [vals, List.map_take]
theorem okB_len {bs : List UInt8} (h : okB bs = true) : bs.length ≤ 5 := by
  have h2 : are (vals bs) = true := by unfold okB at h; simp at h; exact h.2
  have := are_len h2; rwa [vals_length] at this
theorem parseS_len (bs : List UInt8) : (parseS bs).length ≤ 4194304 := by
  unfold parseS
  by_cases h : okB bs = true
  · rw [if_pos h, vals_length]; have := okB_len h; omega
  · rw [if_neg h]; simp
theorem parseS_len5 (bs : List UInt8) : (parseS bs).length ≤ 5 := by
  unfold parseS
  by_cases h : okB bs = true
  · rw [if_pos h, vals_length]; exact okB_len h
  · rw [if_neg h]; simp
theorem digs_vals {bs : List UInt8} (h : are (vals bs) = true) : digs (vals bs) = bs := by
  have hl := are_lt h
  unfold digs
  apply List.ext_getElem (by simp [vals])
  intro i h1 h2
  have h3 := hl i (by rw [vals_length]; exact h2)
  rw [vals_get bs i h2] at h3
  simp only [List.getElem_map, vals]
  have e : 48 + ((bs[i].toNat : Int) - 48).toNat = bs[i].toNat := by omega
  rw [e]; simp
theorem fmt_vals {bs : List UInt8} (h0 : bs ≠ []) : decide (fmtS (vals (bs.take 6)) = bs) = okB bs := by
  rw [Bool.eq_iff_iff, decide_eq_true_iff]
  constructor
  · intro h
    unfold fmtS at h
    by_cases ha : are (vals (bs.take 6)) = true
    · have hne : bs.take 6 ≠ [] := by simp [h0]
      rw [if_pos ha, if_neg (by rw [vals_length]; intro e; exact hne (List.eq_nil_of_length_eq_zero e)), digs_vals ha] at h
      have ht : bs.take 6 = bs := h
      rw [ht] at ha
      unfold okB; rw [ha, decide_eq_true h0]; rfl
    · rw [if_neg ha] at h; exact absurd h.symm h0
  · intro h
    have hl := okB_len h
    have ha : are (vals bs) = true := by unfold okB at h; simp at h; exact h.2
    rw [List.take_of_length_le (by omega)]
    unfold fmtS
    rw [if_pos ha, if_neg (by rw [vals_length]; intro e; exact h0 (List.eq_nil_of_length_eq_zero e)), digs_vals ha]
theorem okB_none : okB [110, 111, 110, 101] = false := by decide
theorem parse_none : parseS [110, 111, 110, 101] = [] ∧ parseSok [110, 111, 110, 101] = true := by decide
theorem parse_bad {bs : List UInt8} (hn : bs ≠ [110, 111, 110, 101]) (h : okB bs = false) : parseS bs = [] ∧ parseSok bs = false := by
  unfold parseS parseSok; rw [h, decide_eq_false hn]; exact ⟨rfl, rfl⟩
theorem parse_good {bs : List UInt8} (hn : bs ≠ [110, 111, 110, 101]) (h : okB bs = true) : parseS bs = vals bs ∧ parseSok bs = true := by
  unfold parseS parseSok; rw [h, decide_eq_false hn]; exact ⟨rfl, rfl⟩
theorem okB_bad {bs : List UInt8} {i : Nat} (hi : i < bs.length) (h : okAt (vals bs) i = false) : okB bs = false := by
  unfold okB; rw [are_false (by rw [vals_length]; exact hi) h, Bool.and_false]
end Go.Proofs.YtgjebjoaemeeoaaGreatDoor.kit
namespace Go.Proofs.YtgjebjoaemeeoaaGreatDoor.kit
set_option linter.unusedVariables false

/-- the number of leading members below x -/
def low (l : List Int) (x : Int) : Nat := (l.takeWhile (fun y => decide (y < x))).length
/-- l with x put in ahead of the first member that is not below it; l itself if that member is x -/
def put (l : List Int) (x : Int) : List Int := if (low l x < l.length ∧ l.getD (low l x) 0 = x) then l else l.take (low l x) ++ x :: l.drop (low l x)
def puts (l xs : List Int) : List Int := xs.foldl put l
def Asc (l : List Int) : Prop := l.Pairwise (· < ·)

theorem low_le (l : List Int) (x : Int) : low l x ≤ l.length := by
  unfold low
  exact (List.takeWhile_sublist _).length_le
theorem low_eq {l : List Int} {x : Int} {k : Nat} (hk : k ≤ l.length) (h1 : ∀ j, j < k → l.getD j 0 < x) (h2 : k < l.length → ¬ l.getD k 0 < x) : low l x = k := by
  unfold low
  induction l generalizing k with
  | nil => simp at hk; simp [hk]
  | cons a l ih =>
    cases k with
    | zero =>
      have h := h2 (by simp)
      have h' : ¬ a < x := by simpa using h
      simp [h']
    | succ k =>
      have h := h1 0 (by omega)
      have h' : a < x := by simpa using h
      rw [List.takeWhile_cons, if_pos (by simpa using h'), List.length_cons]
      congr 1
      refine ih (by simpa using hk) (fun j hj => ?_) (fun hlt => ?_)
      · have := h1 (j + 1) (by omega); simpa using this
      · have := h2 (by simpa using hlt); simpa using this
theorem put_length (l : List Int) (x : Int) : (put l x).length ≤ l.length + 1 := by
  unfold put
  have := low_le l x
  split
  · omega
  · simp; omega
theorem puts_length (xs l : List Int) : (puts l xs).length ≤ l.length + xs.length := by
  induction xs generalizing l with
  | nil => simp [puts]
  | cons x xs ih =>
    have h1 := ih (put l x)
    have h2 := put_length l x
    show (puts (put l x) xs).length ≤ _
    simp; omega
theorem puts_snoc (l xs : List Int) (x : Int) : puts l (xs ++ [x]) = put (puts l xs) x := by simp [puts]
/-- put, on a list's head -/
theorem put_nil (x : Int) : put [] x = [x] := by simp [put, low]
theorem low_cons (a : Int) (l : List Int) (x : Int) : low (a :: l) x = if a < x then low l x + 1 else 0 := by
  unfold low
  rw [List.takeWhile_cons]
  by_cases h : a < x
  · simp [h]
  · simp [h]
theorem put_cons (a : Int) (l : List Int) (x : Int) : put (a :: l) x = if a < x then a :: put l x else if a = x then a :: l else x :: a :: l := by
  unfold put
  rw [low_cons]
  by_cases h : a < x
  · rw [if_pos h, if_pos h]
    by_cases h2 : low l x < l.length ∧ l.getD (low l x) 0 = x
    · rw [if_pos h2, if_pos (by simpa using h2)]
    · rw [if_neg h2, if_neg (by simpa using h2)]
      simp
  · rw [if_neg h, if_neg h]
    by_cases h2 : a = x
    · rw [if_pos h2, if_pos (by simpa using h2)]
    · rw [if_neg h2, if_neg (by simpa using h2)]
      simp
theorem put_mem (l : List Int) (x y : Int) : y ∈ put l x ↔ y = x ∨ y ∈ l := by
  induction l with
  | nil => simp [put_nil]
  | cons a l ih =>
    rw [put_cons]
    by_cases h : a < x
    · rw [if_pos h, List.mem_cons, ih, List.mem_cons]
      exact ⟨fun h => by rcases h with h | h | h <;> simp [h], fun h => by rcases h with h | h | h <;> simp [h]⟩
    · rw [if_neg h]
      by_cases h2 : a = x
      · rw [if_pos h2]; subst h2; simp
      · rw [if_neg h2]; simp
theorem put_asc {l : List Int} (x : Int) (h : Asc l) : Asc (put l x) := by
  unfold Asc at *
  induction l with
  | nil => rw [put_nil]; simp
  | cons a l ih =>
    rw [List.pairwise_cons] at h
    rw [put_cons]
    by_cases h1 : a < x
    · rw [if_pos h1, List.pairwise_cons]
      refine ⟨fun y hy => ?_, ih h.2⟩
      rcases (put_mem l x y).1 hy with e | e
      · omega
      · exact h.1 y e
    · rw [if_neg h1]
      by_cases h2 : a = x
      · rw [if_pos h2, List.pairwise_cons]; exact h
      · rw [if_neg h2, List.pairwise_cons, List.pairwise_cons]
        refine ⟨fun y hy => ?_, h⟩
        rcases List.mem_cons.1 hy with e | e
        · omega
        · have := h.1 y e; omega
theorem puts_asc (xs : List Int) {l : List Int} (h : Asc l) : Asc (puts l xs) := by
  induction xs generalizing l with
  | nil => exact h
  | cons x xs ih => exact ih (put_asc x h)
theorem puts_mem (xs l : List Int) (y : Int) : y ∈ puts l xs ↔ y ∈ xs ∨ y ∈ l := by
  induction xs generalizing l with
  | nil => simp [puts]
  | cons x xs ih =>
    show y ∈ puts (put l x) xs ↔ _
    rw [ih, put_mem, List.mem_cons]
    exact ⟨fun h => by rcases h with h | h | h <;> simp [h], fun h => by rcases h with (h | h) | h <;> simp [h]⟩
theorem asc_ext {a b : List Int} (ha : Asc a) (hb : Asc b) (h : ∀ x, x ∈ a ↔ x ∈ b) : a = b := by
  unfold Asc at *
  induction a generalizing b with
  | nil =>
    cases b with
    | nil => rfl
    | cons y b => have := (h y).2 (by simp); simp at this
  | cons x a ih =>
    cases b with
    | nil => have := (h x).1 (by simp); simp at this
    | cons y b =>
      rw [List.pairwise_cons] at ha hb
      have hxy : x = y := by
        have h1 := (h x).1 (by simp)
        have h2 := (h y).2 (by simp)
        rcases List.mem_cons.1 h1 with e | e
        · exact e
        · rcases List.mem_cons.1 h2 with e2 | e2
          · exact e2.symm
          · have := hb.1 x e; have := ha.1 y e2; omega
      subst hxy
      congr 1
      refine ih ha.2 hb.2 (fun z => ?_)
      constructor
      · intro hz
        rcases List.mem_cons.1 ((h z).1 (List.mem_cons_of_mem _ hz)) with e | e
        · have := ha.1 z hz; omega
        · exact e
      · intro hz
        rcases List.mem_cons.1 ((h z).2 (List.mem_cons_of_mem _ hz)) with e | e
        · have := hb.1 z hz; omega
        · exact e
def unite (a b : List Int) : List Int := puts (puts [] a) b
def common (a b : List Int) : List Int := puts [] (a.filter fun x => decide (x ∈ b))
def without (a b : List Int) : List Int := puts [] (a.filter fun x => decide (x ∉ b))
theorem asc_nil : Asc [] := List.Pairwise.nil
theorem unite_mem (a b : List Int) (x : Int) : x ∈ unite a b ↔ x ∈ a ∨ x ∈ b := by
  rw [unite, puts_mem, puts_mem]; simp [or_comm]
theorem common_mem (a b : List Int) (x : Int) : x ∈ common a b ↔ x ∈ a ∧ x ∈ b := by
  rw [common, puts_mem]; simp
theorem without_mem (a b : List Int) (x : Int) : x ∈ without a b ↔ x ∈ a ∧ x ∉ b := by
  rw [without, puts_mem]; simp
theorem unite_asc (a b : List Int) : Asc (unite a b) := puts_asc _ (puts_asc _ asc_nil)
theorem common_asc (a b : List Int) : Asc (common a b) := puts_asc _ asc_nil
theorem without_asc (a b : List Int) : Asc (without a b) := puts_asc _ asc_nil
theorem unite_len (a b : List Int) (ha : a.length ≤ 1048576) (hb : b.length ≤ 1048576) : (unite a b).length ≤ 4194304 := by
  have h1 := puts_length b (puts [] a)
  have h2 := puts_length a []
  unfold unite
  rw [List.length_nil] at h2; omega
theorem common_len (a b : List Int) (ha : a.length ≤ 1048576) (hb : b.length ≤ 1048576) : (common a b).length ≤ 4194304 := by
  have h1 := puts_length (a.filter fun x => decide (x ∈ b)) []
  have h2 := List.length_filter_le (fun x => decide (x ∈ b)) a
  unfold common
  rw [List.length_nil] at h1; omega
theorem without_len (a b : List Int) (ha : a.length ≤ 1048576) (hb : b.length ≤ 1048576) : (without a b).length ≤ 4194304 := by
  have h1 := puts_length (a.filter fun x => decide (x ∉ b)) []
  have h2 := List.length_filter_le (fun x => decide (x ∉ b)) a
  unfold without
  rw [List.length_nil] at h1; omega
end Go.Proofs.YtgjebjoaemeeoaaGreatDoor.kit
namespace Go.Proofs.YtgjebjoaemeeoaaGreatDoor.kit
open Go.Lib
set_option linter.unusedVariables false

theorem compact_ok (d : Array Int) (hs : ∀ i j, i ≤ j → j < d.size → d[i]! ≤ d[j]!) : ∀ m, m ≤ d.size →
    Asc (compactUpTo d m) ∧ (∀ y, y ∈ compactUpTo d m ↔ ∃ j, j < m ∧ d[j]! = y) := by
  intro m
  induction m with
  | zero => intro _; exact ⟨List.Pairwise.nil, fun y => by simp [compactUpTo]⟩
  | succ m ih =>
    intro hm
    obtain ⟨h1, h2⟩ := ih (by omega)
    rw [compactUpTo_succ]
    by_cases hk : keeps d m = true
    · rw [if_pos hk]
      have hk' : m = 0 ∨ d[m]! ≠ d[m - 1]! := by simpa [keeps] using hk
      refine ⟨?_, fun y => ?_⟩
      · unfold Asc at *
        rw [List.pairwise_append]
        refine ⟨h1, by simp, fun a ha b hb => ?_⟩
        obtain ⟨j, hj, rfl⟩ := (h2 a).1 ha
        rw [List.mem_singleton] at hb
        subst hb
        rcases hk' with e | e
        · omega
        · have a1 := hs j (m - 1) (by omega) (by omega)
          have a2 := hs (m - 1) m (by omega) (by omega)
          omega
      · rw [List.mem_append, h2, List.mem_singleton]
        constructor
        · rintro (⟨j, hj, e⟩ | e)
          · exact ⟨j, by omega, e⟩
          · exact ⟨m, by omega, e.symm⟩
        · rintro ⟨j, hj, e⟩
          by_cases hjm : j = m
          · subst hjm; exact .inr e.symm
          · exact .inl ⟨j, by omega, e⟩
    · rw [if_neg hk, List.append_nil]
      have hk' : m ≠ 0 ∧ d[m]! = d[m - 1]! := by
        have : ¬ (m = 0 ∨ d[m]! ≠ d[m - 1]!) := by simpa [keeps] using hk
        exact ⟨fun e => this (.inl e), Decidable.not_not.1 fun e => this (.inr e)⟩
      refine ⟨h1, fun y => ?_⟩
      rw [h2]
      constructor
      · rintro ⟨j, hj, e⟩; exact ⟨j, by omega, e⟩
      · rintro ⟨j, hj, e⟩
        by_cases hjm : j = m
        · subst hjm; exact ⟨j - 1, by omega, by rw [← hk'.2]; exact e⟩
        · exact ⟨j, by omega, e⟩
/-- a list in strictly ascending order -/
def sorted (l : List Int) : List Int := l.mergeSort fun x y => decide (x ≤ y)
def ascending (l : List Int) : List Int := compact (sorted l)
theorem sorted_length (l : List Int) : (sorted l).length = l.length := List.length_mergeSort l
theorem sorted_pair (l : List Int) : (sorted l).Pairwise (· ≤ ·) := by
  have h := List.pairwise_mergeSort (le := fun x y : Int => decide (x ≤ y)) (by intro a b c; simp; omega) (by intro a b; simp; omega) l
  exact h.imp (fun h => by simpa using h)
theorem sorted_mem (l : List Int) (y : Int) : y ∈ sorted l ↔ y ∈ l := List.mem_mergeSort
theorem ascending_ok (l : List Int) : Asc (ascending l) ∧ ∀ y, y ∈ ascending l ↔ y ∈ l := by
  have hp := sorted_pair l
  have h := compact_ok (sorted l).toArray (fun i j hij hj => by
    have hj' : j < (sorted l).length := by simpa using hj
    by_cases e : i = j
    · subst e; exact Int.le_refl _
    · have h := List.pairwise_iff_getElem.1 hp i j (by omega) hj' (by omega)
      simpa [getElem!_pos, show i < (sorted l).length by omega, hj'] using h) (sorted l).length (by simp)
  refine ⟨h.1, fun y => ?_⟩
  rw [← sorted_mem l y]
  show y ∈ compactUpTo (sorted l).toArray (sorted l).length ↔ _
  rw [h.2, List.mem_iff_getElem]
  constructor
  · rintro ⟨j, hj, e⟩; exact ⟨j, hj, by simpa [getElem!_pos, hj] using e⟩
  · rintro ⟨j, hj, e⟩; exact ⟨j, hj, by simpa [getElem!_pos, hj] using e⟩
theorem ascending_len (l : List Int) : (ascending l).length ≤ l.length := by
  have h : (compactUpTo (sorted l).toArray (sorted l).length).length ≤ (sorted l).length := by
    unfold compactUpTo
    rw [List.length_map]
    have := List.length_filter_le (keeps (sorted l).toArray) (List.range (sorted l).length)
    simpa using this
  calc (ascending l).length ≤ (sorted l).length := h
    _ = l.length := sorted_length l
theorem ascending_le (l : List Int) : (ascending l).Pairwise (· ≤ ·) := (ascending_ok l).1.imp (fun h => by omega)
theorem ascending_nil : ascending [] = [] := by
  have := ascending_len []
  exact List.eq_nil_of_length_eq_zero (by simpa using this)
/-- what the program's sets are made by: the numbers of both lists in order, of which those with a wanted presence stay -/
def withP (a b : List Int) (p : Bool → Bool → Bool) : List Int := (ascending (ascending a ++ ascending b)).filter fun x => p (decide (x ∈ ascending a)) (decide (x ∈ ascending b))
theorem withP_asc (a b : List Int) (p : Bool → Bool → Bool) : Asc (withP a b p) := by
  have h := (ascending_ok (ascending a ++ ascending b)).1
  unfold Asc at *
  exact h.filter _
theorem withP_mem (a b : List Int) (p : Bool → Bool → Bool) (x : Int) : x ∈ withP a b p ↔ (x ∈ a ∨ x ∈ b) ∧ p (decide (x ∈ a)) (decide (x ∈ b)) = true := by
  unfold withP
  have ea : decide (x ∈ ascending a) = decide (x ∈ a) := decide_eq_decide.2 ((ascending_ok a).2 x)
  have eb : decide (x ∈ ascending b) = decide (x ∈ b) := decide_eq_decide.2 ((ascending_ok b).2 x)
  rw [List.mem_filter, (ascending_ok _).2, List.mem_append, ea, eb, (ascending_ok a).2, (ascending_ok b).2]
theorem unite_eq (a b : List Int) (p : Bool → Bool → Bool) (h : p true false = true ∧ p false true = true ∧ p true true = true) : withP a b p = unite a b := by
  refine asc_ext (withP_asc a b p) (unite_asc a b) (fun x => ?_)
  rw [withP_mem, unite_mem]
  by_cases h1 : x ∈ a <;> by_cases h2 : x ∈ b <;> simp [h1, h2, h]
theorem common_eq (a b : List Int) (p : Bool → Bool → Bool) (h : p true false = false ∧ p false true = false ∧ p true true = true) : withP a b p = common a b := by
  refine asc_ext (withP_asc a b p) (common_asc a b) (fun x => ?_)
  rw [withP_mem, common_mem]
  by_cases h1 : x ∈ a <;> by_cases h2 : x ∈ b <;> simp [h1, h2, h]
theorem without_eq (a b : List Int) (p : Bool → Bool → Bool) (h : p true false = true ∧ p false true = false ∧ p true true = false) : withP a b p = without a b := by
  refine asc_ext (withP_asc a b p) (without_asc a b) (fun x => ?_)
  rw [withP_mem, without_mem]
  by_cases h1 : x ∈ a <;> by_cases h2 : x ∈ b <;> simp [h1, h2, h]
end Go.Proofs.YtgjebjoaemeeoaaGreatDoor.kit
namespace Go.Proofs.YtgjebjoaemeeoaaGreatDoor.kit
set_option linter.unusedVariables false
set_option linter.unusedSimpArgs false

theorem are_asc {l : List Int} (h : are l = true) : Asc l := by
  have h' : ∀ i, i < l.length → okAt l i = true := of_decide_eq_true h
  have step : ∀ i, i + 1 < l.length → l.getD i 0 < l.getD (i + 1) 0 := fun i hi => by
    have := h' (i + 1) hi
    unfold okAt at this
    exact (of_decide_eq_true this).2.2 (by omega)
  have far : ∀ d i, i + d + 1 < l.length → l.getD i 0 < l.getD (i + d + 1) 0 := by
    intro d
    induction d with
    | zero => intro i hi; exact step i hi
    | succ d ih =>
      intro i hi
      have h1 := ih i (by omega)
      have h2 := step (i + d + 1) (by omega)
      have e : i + (d + 1) + 1 = i + d + 1 + 1 := by omega
      rw [e]; omega
  refine List.pairwise_iff_getElem.2 (fun i j hi hj hij => ?_)
  have := far (j - i - 1) i (by omega)
  rw [show i + (j - i - 1) + 1 = j by omega] at this
  simpa [List.getD, hi, hj] using this
theorem are_mem {l : List Int} (h : are l = true) : ∀ x ∈ l, 0 ≤ x ∧ x ≤ 4 := by
  intro x hx
  obtain ⟨i, hi, rfl⟩ := List.mem_iff_getElem.1 hx
  have := are_lt h i hi
  simp only [List.getD, List.getElem?_eq_getElem hi, Option.getD_some] at this
  omega
theorem are_of {l : List Int} (h : Asc l) (hm : ∀ x ∈ l, 0 ≤ x ∧ x ≤ 4) : are l = true := by
  refine are_true (fun i hi => decide_eq_true ?_)
  have e : l.getD i 0 = l[i] := by simp [List.getD, hi]
  rw [e]
  have h1 := hm _ (List.getElem_mem hi)
  refine ⟨h1.1, h1.2, fun h0 => ?_⟩
  have e2 : l.getD (i - 1) 0 = l[i - 1] := by simp [List.getD, show i - 1 < l.length by omega]
  rw [e2]
  exact List.pairwise_iff_getElem.1 h (i - 1) i (by omega) hi (by omega)
theorem asc_nodup {l : List Int} (h : Asc l) : l.Nodup := by
  unfold Asc at h
  exact h.imp (fun h => by omega)
theorem perm_len {a b : List Int} (ha : a.Nodup) (hb : b.Nodup) (h : ∀ x, x ∈ a ↔ x ∈ b) : a.length = b.length := ((List.perm_ext_iff_of_nodup ha hb).2 h).length_eq
theorem unite_size {a b : List Int} (ha : are a = true) (hb : are b = true) : (unite a b).length = (without a b).length + b.length := by
  rw [← List.length_append]
  refine perm_len (asc_nodup (unite_asc a b)) ?_ (fun x => ?_)
  · rw [List.nodup_append]
    refine ⟨asc_nodup (without_asc a b), asc_nodup (are_asc hb), fun x hx y hy e => ?_⟩
    subst e
    exact ((without_mem a b x).1 hx).2 hy
  · rw [unite_mem, List.mem_append, without_mem]
    by_cases h1 : x ∈ a <;> by_cases h2 : x ∈ b <;> simp [h1, h2]
theorem common_size {a b : List Int} (ha : are a = true) : (common a b).length + (without a b).length = a.length := by
  rw [← List.length_append]
  refine perm_len ?_ (asc_nodup (are_asc ha)) (fun x => ?_)
  · rw [List.nodup_append]
    refine ⟨asc_nodup (common_asc a b), asc_nodup (without_asc a b), fun x hx y hy e => ?_⟩
    subst e
    exact ((without_mem a b x).1 hy).2 ((common_mem a b x).1 hx).2
  · rw [List.mem_append, without_mem, common_mem]
    by_cases h1 : x ∈ a <;> by_cases h2 : x ∈ b <;> simp [h1, h2]
theorem unite_are {a b : List Int} (ha : are a = true) (hb : are b = true) : are (unite a b) = true :=
  are_of (unite_asc a b) (fun x hx => by
    rcases (unite_mem a b x).1 hx with h | h
    · exact are_mem ha x h
    · exact are_mem hb x h)
theorem vals_digs {l : List Int} (h : are l = true) : vals (digs l) = l := by
  have hm := are_mem h
  unfold vals digs
  rw [List.map_map]
  conv => rhs; rw [← List.map_id l]
  refine List.map_congr_left (fun x hx => ?_)
  have := hm x hx
  simp only [Function.comp, id]
  have e : (UInt8.ofNat (48 + x.toNat)).toNat = 48 + x.toNat := by rw [UInt8.toNat_ofNat']; exact Nat.mod_eq_of_lt (by omega)
  rw [e]; omega
theorem parse_fmt_sok (l : List Int) : parseSok (fmtS l) = are l := by
  unfold fmtS
  by_cases h : are l = true
  · rw [if_pos h, h]
    by_cases h0 : l.length = 0
    · rw [if_pos h0]; decide
    · rw [if_neg h0]
      have hne : digs l ≠ [] := fun e => h0 (by rw [← digs_length, e]; rfl)
      unfold parseSok okB
      rw [vals_digs h, h, decide_eq_true hne]; simp
  · rw [if_neg h, Bool.not_eq_true] at *
    rw [h]; decide
theorem parse_fmt {l : List Int} (h : are l = true) : parseS (fmtS l) = l := by
  unfold fmtS
  rw [if_pos h]
  by_cases h0 : l.length = 0
  · rw [if_pos h0, List.eq_nil_of_length_eq_zero h0]; decide
  · rw [if_neg h0]
    have hne : digs l ≠ [] := fun e => h0 (by rw [← digs_length, e]; rfl)
    unfold parseS okB
    rw [vals_digs h, h, decide_eq_true hne]; rfl
end Go.Proofs.YtgjebjoaemeeoaaGreatDoor.kit
namespace Go.Proofs.YtgjebjoaemeeoaaGreatDoor.kit
set_option linter.unusedVariables false
set_option linter.unusedSimpArgs false

/-- a valid configuration -/
def CfgOk (x y : Int) (L1 L2 : List Int) : Prop := (1 ≤ x ∧ x ≤ 20) ∧ are L1 = true ∧ are L2 = true ∧ y ∈ L1 ∧ common L1 L2 = []
instance (x y : Int) (L1 L2 : List Int) : Decidable (CfgOk x y L1 L2) := inferInstanceAs (Decidable (_ ∧ _))
def inE (x : Int) : Bool := decide (1 ≤ x ∧ x ≤ 20)
def cfgOk (x y : Int) (L1 L2 : List Int) : Bool := decide (CfgOk x y L1 L2)
def memC (x y : Int) (L1 L2 : List Int) : List Int := if cfgOk x y L1 L2 = true then unite L1 L2 else []
def roleI (y : Int) (L1 L2 : List Int) (i : Int) : Int := if i = y then 1 else if i ∈ L1 then 2 else if i ∈ L2 then 3 else 0
def roleC (x y : Int) (L1 L2 : List Int) (i : Int) : Int := if cfgOk x y L1 L2 = true then roleI y L1 L2 i else 0
/-- a role's name -/
def roleN (r : Int) : List UInt8 :=
  if r = 0 then [110, 111, 110, 101] else if r = 1 then [112, 114, 105, 109, 97, 114, 121] else if r = 2 then [98, 97, 99, 107, 117, 112] else if r = 3 then [119, 105, 116, 110, 101, 115, 115] else []
theorem memC_len (x y : Int) (L1 L2 : List Int) (h1 : L1.length ≤ 1048576) (h2 : L2.length ≤ 1048576) : (memC x y L1 L2).length ≤ 4194304 := by
  unfold memC
  split
  · exact unite_len _ _ h1 h2
  · simp
theorem cfg_of {x y : Int} {L1 L2 : List Int} (h : cfgOk x y L1 L2 = true) : CfgOk x y L1 L2 := of_decide_eq_true h
theorem cfgOk_parts (x y : Int) (L1 L2 : List Int) : cfgOk x y L1 L2 = (inE x && (are L1 && (are L2 && (decide (y ∈ L1) && decide ((common L1 L2).length = 0))))) := by
  unfold cfgOk
  rw [Bool.eq_iff_iff, decide_eq_true_iff]
  unfold CfgOk inE
  simp only [decide_eq_true_eq, Bool.and_eq_true, List.length_eq_zero_iff]
theorem bits_of_are {l : List Int} (h : are l = true) : ∃ m, m < 32 ∧ l = bitsOf m := by
  have key : ∀ k, k ≤ l.length → ∃ m, m < 32 ∧ l.take k = bitsOf m := by
    intro k
    induction k with
    | zero => intro _; exact ⟨0, by omega, rfl⟩
    | succ k ih =>
      intro hk
      obtain ⟨m, hm, e⟩ := ih (by omega)
      have h1 := are_lt h k (by omega)
      have hok : okAt l k = true := (of_decide_eq_true h : ∀ i, i < l.length → okAt l i = true) k (by omega)
      have hin := of_decide_eq_true hok
      obtain ⟨id, hid⟩ := Int.eq_ofNat_of_zero_le hin.1
      have h5 : id < 5 := by omega
      by_cases h0 : m / 2 ^ id = 0
      · obtain ⟨b1, b2, b3⟩ := bits_add hm h5 h0
        exact ⟨_, b2, by rw [take_snocI l k (by omega), e, b1, hid]⟩
      · exfalso
        have b := bits_not hm h5 (Nat.pos_of_ne_zero h0)
        have hlast := last_take l k (by omega)
        rw [e] at hlast
        rw [hlast] at b
        split at b
        · omega
        · have := hin.2.2 (by omega); omega
  obtain ⟨m, hm, e⟩ := key l.length (Nat.le_refl _)
  exact ⟨m, hm, by rw [← e, List.take_length]⟩
theorem bits_and0 {m n : Nat} (hm : m < 32) (hn : n < 32) : (m &&& n = 0) ↔ ∀ i, i ∈ bitsOf m → i ∈ bitsOf n → False := by
  have h : ∀ m : Nat, m < 32 → ∀ n : Nat, n < 32 → ((m &&& n = 0) ↔ ∀ i ∈ bitsOf m, ¬ i ∈ bitsOf n) := by decide +kernel
  exact h m hm n hn
theorem bits_or {m n : Nat} (hm : m < 32) (hn : n < 32) : (m ||| n) < 32 ∧ ∀ i, i ∈ bitsOf (m ||| n) ↔ i ∈ bitsOf m ∨ i ∈ bitsOf n := by
  refine ⟨Nat.or_lt_two_pow (n := 5) hm hn, fun i => ?_⟩
  simp only [bits_mem, Nat.testBit_or, Bool.or_eq_true]
  exact ⟨fun ⟨k, h1, e, h2⟩ => h2.elim (fun h => .inl ⟨k, h1, e, h⟩) (fun h => .inr ⟨k, h1, e, h⟩), fun h => h.elim (fun ⟨k, h1, e, h2⟩ => ⟨k, h1, e, .inl h2⟩) (fun ⟨k, h1, e, h2⟩ => ⟨k, h1, e, .inr h2⟩)⟩
theorem bits_asc {m : Nat} (hm : m < 32) : Asc (bitsOf m) := by
  have h : ∀ m : Nat, m < 32 → (bitsOf m).Pairwise (· < ·) := by decide +kernel
  exact h m hm
theorem bits_unite {m n : Nat} (hm : m < 32) (hn : n < 32) : unite (bitsOf m) (bitsOf n) = bitsOf (m ||| n) :=
  asc_ext (unite_asc _ _) (bits_asc (bits_or hm hn).1) (fun x => by rw [unite_mem, (bits_or hm hn).2])
theorem bits_common {m n : Nat} (hm : m < 32) (hn : n < 32) : decide (common (bitsOf m) (bitsOf n) = []) = decide (m &&& n = 0) := by
  rw [decide_eq_decide, bits_and0 hm hn]
  constructor
  · intro h i h1 h2
    have : i ∈ common (bitsOf m) (bitsOf n) := (common_mem _ _ _).2 ⟨h1, h2⟩
    rw [h] at this
    cases this
  · intro h
    refine List.eq_nil_iff_forall_not_mem.2 (fun i hi => ?_)
    have := (common_mem _ _ _).1 hi
    exact h i this.1 this.2
theorem roleI_nz {y : Int} {L1 L2 : List Int} (hy : y ∈ L1) (i : Int) : roleI y L1 L2 i ≠ 0 ↔ i ∈ L1 ∨ i ∈ L2 := by
  unfold roleI
  by_cases h1 : i = y
  · rw [if_pos h1]; subst h1; simp [hy]
  · rw [if_neg h1]
    by_cases h2 : i ∈ L1
    · rw [if_pos h2]; simp [h2]
    · rw [if_neg h2]
      by_cases h3 : i ∈ L2
      · rw [if_pos h3]; simp [h3]
      · rw [if_neg h3]; simp [h2, h3]
theorem mem_role (x y : Int) (L1 L2 : List Int) (i : Int) : i ∈ memC x y L1 L2 ↔ roleC x y L1 L2 i ≠ 0 := by
  unfold memC roleC
  cases h : cfgOk x y L1 L2 with
  | true =>
    have hc := cfg_of h
    rw [if_pos rfl, if_pos rfl, unite_mem, roleI_nz hc.2.2.2.1]
  | false => simp
theorem role_prim {x y : Int} {L1 L2 : List Int} (h : cfgOk x y L1 L2 = true) : roleC x y L1 L2 y = 1 := by
  unfold roleC roleI
  rw [if_pos h, if_pos rfl]
theorem role_in (x y : Int) (L1 L2 : List Int) (i : Int) : 0 ≤ roleC x y L1 L2 i ∧ roleC x y L1 L2 i ≤ 3 := by
  unfold roleC roleI
  repeat' split
  all_goals omega
end Go.Proofs.YtgjebjoaemeeoaaGreatDoor.kit
namespace Go.Proofs.YtgjebjoaemeeoaaGreatDoor.kit
set_option linter.unusedVariables false
set_option linter.unusedSimpArgs false

def fmtC (x y : Int) (L1 L2 : List Int) : List UInt8 :=
  if cfgOk x y L1 L2 = true then Lib.itoa x ++ ([32] ++ (Lib.itoa y ++ ([32] ++ (fmtS L1 ++ ([32] ++ fmtS L2))))) else []
theorem cfg_y {x y : Int} {L1 L2 : List Int} (h : CfgOk x y L1 L2) : 0 ≤ y ∧ y ≤ 4 := are_mem h.2.1 y h.2.2.2.1
/-! ### formats of sets -/
theorem fmtS_no (l : List Int) : (32 : UInt8) ∉ fmtS l := by
  unfold fmtS
  by_cases h : are l = true
  · rw [if_pos h]
    by_cases h0 : l.length = 0
    · rw [if_pos h0]; decide
    · rw [if_neg h0]
      intro hm
      unfold digs at hm
      obtain ⟨v, hv, e⟩ := List.mem_map.1 hm
      have hr := are_mem h v hv
      have e2 := congrArg UInt8.toNat e
      rw [UInt8.toNat_ofNat', Nat.mod_eq_of_lt (by omega)] at e2
      have : (32 : UInt8).toNat = 32 := rfl
      omega
  · rw [if_neg h]; simp
theorem fmt_parse {b : List UInt8} (h : parseSok b = true) : fmtS (parseS b) = b := by
  by_cases hn : b = [110, 111, 110, 101]
  · subst hn; decide
  · unfold parseSok at h
    rw [decide_eq_false hn, Bool.false_or] at h
    unfold parseS
    rw [if_pos h]
    unfold okB at h
    simp only [Bool.and_eq_true, decide_eq_true_eq] at h
    unfold fmtS
    rw [if_pos h.2, if_neg (by rw [vals_length]; intro e; exact h.1 (List.eq_nil_of_length_eq_zero e)), digs_vals h.2]
/-! ### a configuration is read -/
/-- the program's words -/
def wordsC (l : List UInt8) : List (List UInt8) := Lib.splitK [32] 0 3 l
/-- what the specification reads -/
def cx (s : List UInt8) : Int := numL ((cuts 32 s).getD 0 [])
def cy (s : List UInt8) : Int := numL ((cuts 32 s).getD 1 [])
def c1 (s : List UInt8) : List Int := parseS ((cuts 32 s).getD 2 [])
def c2 (s : List UInt8) : List Int := parseS ((cuts 32 s).getD 3 [])
def okPC (s : List UInt8) : Prop := (cuts 32 s).length = 4 ∧ fmtC (cx s) (cy s) (c1 s) (c2 s) = s
instance (s : List UInt8) : Decidable (okPC s) := inferInstanceAs (Decidable (_ ∧ _))
/-- ParseConfig's results -/
def parCok (s : List UInt8) : Bool := decide (okPC s)
def parCx (s : List UInt8) : Int := if okPC s then cx s else 0
def parCy (s : List UInt8) : Int := if okPC s then cy s else 0
def parC1 (s : List UInt8) : List Int := if okPC s then c1 s else []
def parC2 (s : List UInt8) : List Int := if okPC s then c2 s else []
theorem parC1_len (s : List UInt8) : (parC1 s).length ≤ 4194304 := by
  unfold parC1
  split
  · exact parseS_len _
  · simp
theorem parC2_len (s : List UInt8) : (parC2 s).length ≤ 4194304 := by
  unfold parC2
  split
  · exact parseS_len _
  · simp
theorem parC_yes {s : List UInt8} (h : okPC s) : parCok s = true ∧ parCx s = cx s ∧ parCy s = cy s ∧ parC1 s = c1 s ∧ parC2 s = c2 s :=
  ⟨decide_eq_true h, if_pos h, if_pos h, if_pos h, if_pos h⟩
theorem parC_no {s : List UInt8} (h : ¬ okPC s) : parCok s = false ∧ parCx s = 0 ∧ parCy s = 0 ∧ parC1 s = [] ∧ parC2 s = [] :=
  ⟨decide_eq_false h, if_neg h, if_neg h, if_neg h, if_neg h⟩
theorem fmtC_join {x y : Int} {L1 L2 : List Int} (h : CfgOk x y L1 L2) : fmtC x y L1 L2 = joinX 32 [Lib.itoa x, Lib.itoa y, fmtS L1, fmtS L2] := by
  unfold fmtC cfgOk
  rw [if_pos (decide_eq_true h)]
  simp [joinX]
theorem words_no {x y : Int} {L1 L2 : List Int} (h : CfgOk x y L1 L2) : ∀ p ∈ [Lib.itoa x, Lib.itoa y, fmtS L1, fmtS L2], (32 : UInt8) ∉ p := fun p hp => by
  have hy := cfg_y h
  have hx := h.1
  simp only [List.mem_cons, List.not_mem_nil, or_false] at hp
  rcases hp with rfl | rfl | rfl | rfl
  · exact itoa_no (by omega) (by decide)
  · exact itoa_no (by omega) (by decide)
  · exact fmtS_no _
  · exact fmtS_no _
/-- the program's parts are right -/
def goodC (ws : List (List UInt8)) : Prop := ws.length = 4 ∧ allPar (ws.take 2) = true ∧ parseSok (ws.getD 2 []) = true ∧ parseSok (ws.getD 3 []) = true ∧ CfgOk (parN (ws.getD 0 [])) (parN (ws.getD 1 [])) (parseS (ws.getD 2 [])) (parseS (ws.getD 3 []))
theorem conf_yes {s : List UInt8} (h : goodC (wordsC s)) : okPC s ∧ cx s = parN ((wordsC s).getD 0 []) ∧ cy s = parN ((wordsC s).getD 1 []) ∧ c1 s = parseS ((wordsC s).getD 2 []) ∧ c2 s = parseS ((wordsC s).getD 3 []) := by
  have hj := join_split 32 3 s
  have hw : wordsC s = Lib.splitK [32] 0 3 s := rfl
  rw [← hw] at hj
  clear hw
  match hps : wordsC s, h with
  | [p0, p1, p2, p3], ⟨_, ha, h2, h3, hc⟩ =>
    rw [hps] at hj
    simp only [List.take_succ_cons, List.take_zero, allPar, List.all_cons, List.all_nil, Bool.and_true, Bool.and_eq_true, List.getD_cons_zero, List.getD_cons_succ] at ha h2 h3 hc ⊢
    have hy := cfg_y hc
    have hx := hc.1
    have f0 := itoa_par ha.1
    have f1 := itoa_par ha.2
    have f2 := fmt_parse h2
    have f3 := fmt_parse h3
    have hno := words_no hc
    rw [f0, f1, f2, f3] at hno
    have hcut : cuts 32 s = [p0, p1, p2, p3] := by rw [← hj]; exact cuts_join (by simp) hno
    have e0 : cx s = parN p0 := by unfold cx numL; rw [hcut]; simp only [List.getD_cons_zero]; rw [ha.1, decide_eq_true (show 0 ≤ parN p0 by omega)]; rfl
    have e1 : cy s = parN p1 := by unfold cy numL; rw [hcut]; simp only [List.getD_cons_zero, List.getD_cons_succ]; rw [ha.2, decide_eq_true (show 0 ≤ parN p1 by omega)]; rfl
    have e2 : c1 s = parseS p2 := by unfold c1; rw [hcut]; rfl
    have e3 : c2 s = parseS p3 := by unfold c2; rw [hcut]; rfl
    refine ⟨⟨by rw [hcut]; rfl, ?_⟩, e0, e1, e2, e3⟩
    rw [e0, e1, e2, e3, fmtC_join hc, f0, f1, f2, f3, hj]
theorem conf_no {s : List UInt8} (h : ¬ goodC (wordsC s)) : ¬ okPC s := fun ⟨hl, hf⟩ => by
  apply h
  by_cases hc : CfgOk (cx s) (cy s) (c1 s) (c2 s)
  · have hno := words_no hc
    have hy := cfg_y hc
    have hx := hc.1
    rw [fmtC_join hc] at hf
    have hw : wordsC s = [Lib.itoa (cx s), Lib.itoa (cy s), fmtS (c1 s), fmtS (c2 s)] := by
      unfold wordsC
      conv => lhs; rw [← hf]
      exact split_join (by simp) hno (by simp)
    have p0 := par_itoa (n := cx s) (by omega) (by omega)
    have p1 := par_itoa (n := cy s) (by omega) (by omega)
    rw [hw]
    refine ⟨rfl, ?_, ?_, ?_, ?_⟩
    · simp [allPar, p0.1, p1.1]
    · simp only [List.getD_cons_zero, List.getD_cons_succ]; rw [parse_fmt_sok]; exact hc.2.1
    · simp only [List.getD_cons_zero, List.getD_cons_succ]; rw [parse_fmt_sok]; exact hc.2.2.1
    · simp only [List.getD_cons_zero, List.getD_cons_succ]; rw [p0.2, p1.2, parse_fmt hc.2.1, parse_fmt hc.2.2.1]; exact hc
  · exfalso
    have he : s = [] := by
      rw [← hf]
      unfold fmtC cfgOk
      rw [if_neg (by rw [decide_eq_false hc]; simp)]
    rw [he] at hl
    simp [cuts] at hl
/-- a configuration is read back -/
theorem conf_back {x y : Int} {L1 L2 : List Int} (h : CfgOk x y L1 L2) : parCok (fmtC x y L1 L2) = true ∧ parCx (fmtC x y L1 L2) = x ∧ parCy (fmtC x y L1 L2) = y ∧ parC1 (fmtC x y L1 L2) = L1 ∧ parC2 (fmtC x y L1 L2) = L2 := by
  have hno := words_no h
  have hy := cfg_y h
  have hx := h.1
  have hw : wordsC (fmtC x y L1 L2) = [Lib.itoa x, Lib.itoa y, fmtS L1, fmtS L2] := by
    unfold wordsC
    rw [fmtC_join h]
    exact split_join (by simp) hno (by simp)
  have p0 := par_itoa (n := x) (by omega) (by omega)
  have p1 := par_itoa (n := y) (by omega) (by omega)
  have hg : goodC (wordsC (fmtC x y L1 L2)) := by
    rw [hw]
    refine ⟨rfl, ?_, ?_, ?_, ?_⟩
    · simp [allPar, p0.1, p1.1]
    · simp only [List.getD_cons_zero, List.getD_cons_succ]; rw [parse_fmt_sok]; exact h.2.1
    · simp only [List.getD_cons_zero, List.getD_cons_succ]; rw [parse_fmt_sok]; exact h.2.2.1
    · simp only [List.getD_cons_zero, List.getD_cons_succ]; rw [p0.2, p1.2, parse_fmt h.2.1, parse_fmt h.2.2.1]; exact h
  obtain ⟨h1, e0, e1, e2, e3⟩ := conf_yes hg
  obtain ⟨r, r0, r1, r2, r3⟩ := parC_yes h1
  rw [hw] at e0 e1 e2 e3
  simp only [List.getD_cons_zero, List.getD_cons_succ] at e0 e1 e2 e3
  exact ⟨r, by rw [r0, e0, p0.2], by rw [r1, e1, p1.2], by rw [r2, e2, parse_fmt h.2.1], by rw [r3, e3, parse_fmt h.2.2.1]⟩
end Go.Proofs.YtgjebjoaemeeoaaGreatDoor.kit
namespace Go.Proofs.YtgjebjoaemeeoaaGreatDoor.kit
open Go.ChangeShapes Go.WideShapes Go.ChangeAt Go.RowKit
set_option linter.unusedVariables false
set_option linter.unusedSimpArgs false

def bitsTo (m k : Nat) : List Int := ((List.range k).filter fun i => m.testBit i).map fun i => ((i : Nat) : Int)
theorem bitsTo_snoc (m k : Nat) : bitsTo m (k + 1) = if m.testBit k = true then bitsTo m k ++ [(k : Int)] else bitsTo m k := by
  unfold bitsTo
  rw [List.range_succ, List.filter_append, List.map_append]
  by_cases h : m.testBit k = true
  · rw [if_pos h, List.filter_cons, if_pos h]; rfl
  · rw [if_neg h, List.filter_cons, if_neg h]; simp
theorem bitsTo_len (m k : Nat) : (bitsTo m k).length ≤ k := by
  unfold bitsTo
  rw [List.length_map]
  have := List.length_filter_le (fun i => m.testBit i) (List.range k)
  simpa using this
set_option maxRecDepth 100000 in
theorem implNumbers (m : Nat) (w : World) (hm : m < 32) :
    Calls Tryz.prog 81 #[.int .u8 m] w fun e w' => ∃ v, e = .returned v ∧ OwnI w.heap.size w' v (bitsOf m) ∧ Below w.heap.size w w' := by
  have hmk : ∀ W : World, (Instr.makeSlice 35 (.int .i64 0) (.int .i64 5)).run Tryz.prog W = .ok (.slice (some ⟨W.heap.size, 0, none⟩) 0 5) (W.alloc (.cells (madeCells #[.int .i64 0] 5) 3)) := fun _ => by kernel_rfl
  go_enter Tryz.func81, Tryz.ntmps81
  go_wp2_with fail
  clear hmk
  go_loopw [3, 6] (fun v i wr => ∃ k : Nat, k ≤ 5 ∧ i = .int .i64 k ∧ OwnI w.heap.size wr v (bitsTo m k) ∧ Below w.heap.size w wr) (fun _ i _ => 5 - (intOf i).toNat)
  case atStart => exact ⟨0, Nat.zero_le _, rfl, World.ownsRow_made w _ 5 (Nat.le_refl _) (by unfold maxLen; omega) (by simp [size_madeCells]), (Below.refl _ _).alloc (Nat.le_refl _) _⟩
  case round =>
    obtain ⟨k, hk, rfl, ho, hb⟩ := hrel
    by_cases hlt : k < 5
    · have j1 := fun W => implHasBit m (k : Int) W hm
      rw [bits_mem' hlt] at j1
      have HT := Lib.hid (bitsTo_snoc m k)
      have hl := bitsTo_len m k
      have hown := ho.row
      have HO := Lib.hid ho
      have HB := Lib.hid hb
      have hs0 := hb.size
      have g5 : decide ((k : Int) < 5) = true := by simp; omega
      clear ho hb
      by_cases ht : m.testBit k = true
      · rw [ht] at j1
        have J1 := Lib.hid j1
        have HT := Lib.hid (HT.out.trans (if_pos ht))
        clear ht j1
        go_wp2_with (first | (go_at_call 101; refine (J1.out _).mono ?_; rintro e w1 ⟨rfl, rfl⟩) | (at_builtin; refine wpList_push1 rfl _ _ 35 rfl w.heap.size 3 (.int .i64 0) 8 Tryz.underlying35 infoI rfl _ _ _ rfl hown _ 1 rfl (by rfl) (by omega) (by omega) hs0 ?_; intro v' w9 hown' hb9 hg9))
        go_roundw
        case rel => exact ⟨k + 1, by omega, by go_num, by rw [HT.out]; exact OwnI.snoc hown', HB.out.trans hb9⟩
        case measure => simp [intOf]; omega
      · have ht' : m.testBit k = false := by simpa using ht
        rw [ht'] at j1
        have J1 := Lib.hid j1
        have HT := Lib.hid (HT.out.trans (if_neg ht))
        clear ht ht' hown j1
        go_wp2_with (go_at_call 101; refine (J1.out _).mono ?_; rintro e w1 ⟨rfl, rfl⟩)
        go_roundw
        case rel => exact ⟨k + 1, by omega, by go_num, by rw [HT.out]; exact HO.out, HB.out⟩
        case measure => simp [intOf]; omega
    · obtain rfl : k = 5 := by omega
      have HO := Lib.hid ho
      have HB := Lib.hid hb
      clear ho hb
      go_wp2_with fail
      go_ret
      exact ⟨_, rfl, HO.out, HB.out⟩
end Go.Proofs.YtgjebjoaemeeoaaGreatDoor.kit
namespace Go.Proofs.YtgjebjoaemeeoaaGreatDoor.kit
open Go.ChangeShapes Go.WideShapes Go.ChangeAt Go.RowKit Go.Deep
set_option linter.unusedVariables false

/-- two rows of the call's own lie in blocks of their own -/
def Apart (v1 v2 : Value) : Prop := ∀ g, v1.ownBlock = some g → v2.ownBlock = some g → False
theorem Apart.symm {v1 v2 : Value} (h : Apart v1 v2) : Apart v2 v1 := fun g a b => h g b a
theorem apart_of {b1 b2 : Nat} {w1 w2 : World} {v1 v2 : Value} {l1 l2 : List Int} (h1 : OwnI b1 w1 v1 l1) (h2 : OwnI b2 w2 v2 l2) (h : w1.heap.size ≤ b2) : Apart v1 v2 := fun g e1 e2 => by
  have a := (h1.block g e1).2
  have b := (h2.block g e2).1
  omega
theorem apart_nil (v : Value) (l c : Nat) : Apart v (.slice none l c) := fun g _ e => by cases e
theorem nil_apart (v : Value) (l c : Nat) : Apart (.slice none l c) v := fun g e _ => by cases e
end Go.Proofs.YtgjebjoaemeeoaaGreatDoor.kit
namespace Go.Proofs.YtgjebjoaemeeoaaGreatDoor.kit
open Go.ChangeShapes Go.WideShapes Go.ChangeAt Go.RowKit
set_option linter.unusedVariables false
set_option linter.unusedSimpArgs false

theorem and_bits {m n : Nat} (hm : m < 32) (hn : n < 32) : (bits .and .u8 (m : Int) (n : Int) == 0) = decide (m &&& n = 0) := by
  have h : ∀ m : Nat, m < 32 → ∀ n : Nat, n < 32 → (bits .and .u8 (m : Int) (n : Int) == 0) = decide (m &&& n = 0) := by decide +kernel
  exact h m hm n hn
theorem or_bits {m n : Nat} (hm : m < 32) (hn : n < 32) : bits .or .u8 (m : Int) (n : Int) = ((m ||| n : Nat) : Int) := by
  have h : ∀ m : Nat, m < 32 → ∀ n : Nat, n < 32 → bits .or .u8 (m : Int) (n : Int) = ((m ||| n : Nat) : Int) := by decide +kernel
  exact h m hm n hn
theorem are_mask {l : List Int} (h : are l = true) : bitsOf (maskOf l) = l := by
  obtain ⟨m, hm, rfl⟩ := bits_of_are h
  rw [mask_bits hm]
def grpV (x y : Int) (m n : Nat) : Value := .agg #[.int .i64 x, .int .i64 y, .int .u8 m, .int .u8 n]
set_option maxRecDepth 100000 in
theorem implHasEpoch (x : Int) (w : World) : Calls Tryz.prog 100 #[.int .i64 x] w fun e w' => e = .returned (.bool (inE x)) ∧ w = w' := by
  by_cases h1 : 1 ≤ x
  · by_cases h2 : x ≤ 20
    · have HF := Lib.hid (show inE x = true from decide_eq_true ⟨h1, h2⟩)
      go_enter Tryz.func100, Tryz.ntmps100
      go_wp2_with go_in
      go_ret
      exact ⟨by rw [HF.out]; rfl, rfl⟩
    · have HF := Lib.hid (show inE x = false from decide_eq_false (fun h => h2 h.2))
      go_enter Tryz.func100, Tryz.ntmps100
      go_wp2_with go_in
      go_ret
      exact ⟨by rw [HF.out]; rfl, rfl⟩
  · have HF := Lib.hid (show inE x = false from decide_eq_false (fun h => h1 h.1))
    go_enter Tryz.func100, Tryz.ntmps100
    go_wp2_with go_in
    go_ret
    exact ⟨by rw [HF.out]; rfl, rfl⟩
set_option maxRecDepth 100000 in
theorem implGroupValid (x y : Int) (m n : Nat) (w : World) (hm : m < 32) (hn : n < 32) :
    Calls Tryz.prog 78 #[grpV x y m n] w fun e w' => e = .returned (.bool (inE x && (decide (y ∈ bitsOf m) && decide (m &&& n = 0)))) ∧ Below w.heap.size w w' := by
  have j1 := fun W => implHasEpoch x W
  have j2 := fun W => implHasBit m y W hm
  have g := and_bits hm hn
  have HB := Lib.hid (show Below w.heap.size w (w.alloc (.cells #[.int .i64 x, .int .i64 y, .int .u8 m, .int .u8 n] 83)) from (Below.refl _ _).alloc (Nat.le_refl _) _)
  unfold grpV
  generalize inE x = p at *
  generalize decide (y ∈ bitsOf m) = q at *
  generalize decide (m &&& n = 0) = r at *
  have J1 := fun W => Lib.hid (j1 W)
  have J2 := fun W => Lib.hid (j2 W)
  clear j1 j2 hm hn
  cases p <;> cases q <;> cases r
  all_goals
    go_enter Tryz.func78, Tryz.ntmps78
    go_wp2_with (first | (go_at_call 100; refine (J1 _).out.mono ?_; rintro e w1 ⟨rfl, rfl⟩) | (go_at_call 101; refine (J2 _).out.mono ?_; rintro e w1 ⟨rfl, rfl⟩))
    go_ret
    exact ⟨rfl, HB.out⟩
theorem cfgOk_mask {x y : Int} {L1 L2 : List Int} (h1 : are L1 = true) (h2 : are L2 = true) : cfgOk x y L1 L2 = (inE x && (decide (y ∈ bitsOf (maskOf L1)) && decide (maskOf L1 &&& maskOf L2 = 0))) := by
  rw [cfgOk_parts, h1, h2, Bool.true_and, Bool.true_and, ← bits_common (mask_lt L1) (mask_lt L2), are_mask h1, are_mask h2]
  simp [List.length_eq_zero_iff]
def gV (x y : Int) (L1 L2 : List Int) : Value := if cfgOk x y L1 L2 = true then grpV x y (maskOf L1) (maskOf L2) else grpV 0 0 0 0
theorem gV_no {x y : Int} {L1 L2 : List Int} (h : cfgOk x y L1 L2 = false) : gV x y L1 L2 = .agg #[.int .i64 0, .int .i64 0, .int .u8 0, .int .u8 0] := by unfold gV; rw [h]; rfl
theorem gV_yes {x y : Int} {L1 L2 : List Int} (h : cfgOk x y L1 L2 = true) : gV x y L1 L2 = .agg #[.int .i64 x, .int .i64 y, .int .u8 (maskOf L1 : Nat), .int .u8 (maskOf L2 : Nat)] := by unfold gV; rw [if_pos h]; rfl
set_option maxRecDepth 100000 in
set_option maxHeartbeats 2000000 in
theorem implGroupOf (x y : Int) (a1 : Option Addr) (q1 : Nat) (L1 : List Int) (a2 : Option Addr) (q2 : Nat) (L2 : List Int) (w : World) (h1 : L1.length ≤ 4194304) (h2 : L2.length ≤ 4194304) (ha1 : At w a1 L1) (ha2 : At w a2 L2) :
    Calls Tryz.prog 42 #[.agg #[.int .i64 x, .int .i64 y, .slice a1 L1.length q1, .slice a2 L2.length q2]] w fun e w' => e = .returned (.tuple #[gV x y L1 L2, .bool (cfgOk x y L1 L2)]) ∧ Below w.heap.size w w' := by
  have j1 := fun W (hW : Below w.heap.size w W) => implSetOf a1 q1 L1 W h1 (ha1.later hW)
  have j2 := fun W (hW : Below w.heap.size w W) => implSetOf a2 q2 L2 W h2 (ha2.later hW)
  obtain ⟨W, hW⟩ : ∃ W, W = (w.alloc (.cells #[.int .i64 x, .int .i64 y, .slice a1 L1.length q1, .slice a2 L2.length q2] 37)).alloc (.cells #[.int .i64 0, .int .i64 0, .int .u8 0, .int .u8 0] 83) := ⟨_, rfl⟩
  have hB : Below w.heap.size w W := by rw [hW]; exact ((Below.refl _ _).alloc (Nat.le_refl _) _).alloc (by simp) _
  have HC := Lib.hid (show BoxC W w.heap.size 37 #[.int .i64 x, .int .i64 y, .slice a1 L1.length q1, .slice a2 L2.length q2] by rw [hW]; exact (BoxC.new _ _ _).later ((Below.refl _ _).alloc (Nat.le_refl _) _))
  have HR := Lib.hid (show BoxC W (w.heap.size + 1) 83 #[.int .i64 0, .int .i64 0, .int .u8 0, .int .u8 0] by
    rw [hW]
    have h := BoxC.new (w.alloc (.cells #[.int .i64 x, .int .i64 y, .slice a1 L1.length q1, .slice a2 L2.length q2] 37)) 83 #[.int .i64 0, .int .i64 0, .int .u8 0, .int .u8 0]
    rwa [World.size_alloc] at h)
  have hm1 := mask_lt L1
  have hm2 := mask_lt L2
  have HE := Lib.hid (show are L1 = false ∨ are L2 = false → cfgOk x y L1 L2 = false from fun h => by
    rw [cfgOk_parts]; rcases h with h | h <;> rw [h] <;> simp)
  have HE2 := Lib.hid (fun h1 h2 => cfgOk_mask (x := x) (y := y) (L1 := L1) (L2 := L2) h1 h2)
  have HN := Lib.hid (fun h => gV_no (x := x) (y := y) (L1 := L1) (L2 := L2) h)
  have HY := Lib.hid (fun h => gV_yes (x := x) (y := y) (L1 := L1) (L2 := L2) h)
  have j3 := fun W => implGroupValid x y (maskOf L1) (maskOf L2) W hm1 hm2
  unfold grpV at j3
  generalize (inE x && (decide (y ∈ bitsOf (maskOf L1)) && decide (maskOf L1 &&& maskOf L2 = 0))) = ok at *
  generalize maskOf L1 = m1 at *
  generalize maskOf L2 = m2 at *
  have HB := Lib.hid hB
  have HW := Lib.hid hW
  have J1 := Lib.hid (j1 W hB)
  have J2 := Lib.hid j2
  have J3 := Lib.hid j3
  clear hB hW j1 j2 j3 ha1 ha2
  go_enter Tryz.func42, Tryz.ntmps42
  go_wp2_with fail
  rw [← HW.out]
  have x2 := HC.out.c 2 rfl
  refine J1.out.mono ?_
  rintro e w1 ⟨rfl, hb⟩
  replace HR := Lib.hid (HR.out.later hb)
  replace HC := Lib.hid (HC.out.later hb)
  replace HB := Lib.hid (HB.out.trans (hb.mono HB.out.size))
  clear hb HW J1 x2
  have x3 := HC.out.c 3 rfl
  go_wp2_with fail
  refine (J2.out _ HB.out).mono ?_
  rintro e w2 ⟨rfl, hb⟩
  replace HR := Lib.hid (HR.out.later hb)
  replace HC := Lib.hid (HC.out.later hb)
  replace HB := Lib.hid (HB.out.trans (hb.mono HB.out.size))
  have hbA := (Below.refl w2.heap.size w2).alloc (Nat.le_refl _) (.cells #[.int .i64 x, .int .i64 y, .int .u8 (m1 : Nat), .int .u8 (m2 : Nat)] 83)
  have HR2 := Lib.hid (HR.out.later hbA)
  have HB2 := Lib.hid (HB.out.trans (hbA.mono HB.out.size))
  clear hb J2 x3 hbA
  have x0 := HC.out.c 0 rfl
  have x1 := HC.out.c 1 rfl
  have x2 := HC.out.c 2 rfl
  have x3 := HC.out.c 3 rfl
  cases e1 : are L1 with
  | false =>
    have HF := Lib.hid (HE.out (.inl e1))
    replace HR := HR2
    replace HB := HB2
    clear e1 J3
    have r0 := HR.out.c 0 rfl
    have r1 := HR.out.c 1 rfl
    have r2 := HR.out.c 2 rfl
    have r3 := HR.out.c 3 rfl
    have f0 := HR.out.f 0
    have f1 := HR.out.f 1
    have f2 := HR.out.f 2
    have f3 := HR.out.f 3
    go_wp2_with fail
    refine bodyPost_ret (v := .tuple #[.agg #[.int .i64 0, .int .i64 0, .int .u8 0, .int .u8 0], .bool false]) (by simp [results, Tryz.results42, go_sem, r0, r1, r2, r3]) rfl ?_
    refine ⟨by rw [HN.out HF.out, HF.out], ?_⟩
    exact
      (((HB.out.setCell (p := ⟨w.heap.size + 1, 0, none⟩) (Nat.le_succ _) _).setCell (p := ⟨w.heap.size + 1, 1, none⟩) (Nat.le_succ _) _).setCell (p := ⟨w.heap.size + 1, 2, none⟩) (Nat.le_succ _) _).setCell (p := ⟨w.heap.size + 1, 3, none⟩) (Nat.le_succ _) _
  | true =>
    cases e2 : are L2 with
    | false =>
      have HF := Lib.hid (HE.out (.inr e2))
      replace HR := HR2
      replace HB := HB2
      clear e1 e2 J3
      have r0 := HR.out.c 0 rfl
      have r1 := HR.out.c 1 rfl
      have r2 := HR.out.c 2 rfl
      have r3 := HR.out.c 3 rfl
      have f0 := HR.out.f 0
      have f1 := HR.out.f 1
      have f2 := HR.out.f 2
      have f3 := HR.out.f 3
      go_wp2_with fail
      refine bodyPost_ret (v := .tuple #[.agg #[.int .i64 0, .int .i64 0, .int .u8 0, .int .u8 0], .bool false]) (by simp [results, Tryz.results42, go_sem, r0, r1, r2, r3]) rfl ?_
      refine ⟨by rw [HN.out HF.out, HF.out], ?_⟩
      exact
        (((HB.out.setCell (p := ⟨w.heap.size + 1, 0, none⟩) (Nat.le_succ _) _).setCell (p := ⟨w.heap.size + 1, 1, none⟩) (Nat.le_succ _) _).setCell (p := ⟨w.heap.size + 1, 2, none⟩) (Nat.le_succ _) _).setCell (p := ⟨w.heap.size + 1, 3, none⟩) (Nat.le_succ _) _
    | true =>
      have HK := Lib.hid (HE2.out e1 e2)
      clear e1 e2
      go_wp2_with fail
      refine (J3.out _).mono ?_
      rintro e w3 ⟨rfl, hb⟩
      replace HR := Lib.hid (HR2.out.later hb)
      replace HB := Lib.hid (HB2.out.trans (hb.mono HB2.out.size))
      have HG := Lib.hid ((BoxC.new w2 83 #[.int .i64 x, .int .i64 y, .int .u8 (m1 : Nat), .int .u8 (m2 : Nat)]).later hb)
      clear hb HR2 HB2 J3
      have r0 := HR.out.c 0 rfl
      have r1 := HR.out.c 1 rfl
      have r2 := HR.out.c 2 rfl
      have r3 := HR.out.c 3 rfl
      have f0 := HR.out.f 0
      have f1 := HR.out.f 1
      have f2 := HR.out.f 2
      have f3 := HR.out.f 3
      cases ok with
      | false =>
        have HF := Lib.hid HK.out
        go_wp2_with fail
        refine bodyPost_ret (v := .tuple #[.agg #[.int .i64 0, .int .i64 0, .int .u8 0, .int .u8 0], .bool false]) (by simp [results, Tryz.results42, go_sem, r0, r1, r2, r3]) rfl ?_
        refine ⟨by rw [HN.out HF.out, HF.out], ?_⟩
        exact
          (((HB.out.setCell (p := ⟨w.heap.size + 1, 0, none⟩) (Nat.le_succ _) _).setCell (p := ⟨w.heap.size + 1, 1, none⟩) (Nat.le_succ _) _).setCell (p := ⟨w.heap.size + 1, 2, none⟩) (Nat.le_succ _) _).setCell (p := ⟨w.heap.size + 1, 3, none⟩) (Nat.le_succ _) _
      | true =>
        have HF := Lib.hid HK.out
        have k0 := HG.out.c 0 rfl
        have k1 := HG.out.c 1 rfl
        have k2 := HG.out.c 2 rfl
        have k3 := HG.out.c 3 rfl
        go_wp2_with fail
        refine bodyPost_ret (v := .tuple #[.agg #[.int .i64 x, .int .i64 y, .int .u8 (m1 : Nat), .int .u8 (m2 : Nat)], .bool true]) (by simp [results, Tryz.results42, go_sem, r0, r1, r2, r3]) rfl ?_
        refine ⟨by rw [HY.out HF.out, HF.out], ?_⟩
        exact
          (((HB.out.setCell (p := ⟨w.heap.size + 1, 0, none⟩) (Nat.le_succ _) _).setCell (p := ⟨w.heap.size + 1, 1, none⟩) (Nat.le_succ _) _).setCell (p := ⟨w.heap.size + 1, 2, none⟩) (Nat.le_succ _) _).setCell (p := ⟨w.heap.size + 1, 3, none⟩) (Nat.le_succ _) _
theorem implGroupOfO (x y : Int) (b1 b2 : Nat) (v1 v2 : Value) (L1 L2 : List Int) (w : World) (h1 : L1.length ≤ 4194304) (h2 : L2.length ≤ 4194304) (o1 : OwnI b1 w v1 L1) (o2 : OwnI b2 w v2 L2) :
    Calls Tryz.prog 42 #[.agg #[.int .i64 x, .int .i64 y, v1, v2]] w fun e w' => e = .returned (.tuple #[gV x y L1 L2, .bool (cfgOk x y L1 L2)]) ∧ Below w.heap.size w w' := by
  obtain ⟨a1, c1, rfl, _, _, t1, _⟩ := o1.form
  obtain ⟨a2, c2, rfl, _, _, t2, _⟩ := o2.form
  exact implGroupOf x y a1 c1 L1 a2 c2 L2 w h1 h2 t1 t2
set_option maxRecDepth 100000 in
theorem implIsValidConfig (x y : Int) (b1 b2 : Nat) (v1 v2 : Value) (L1 L2 : List Int) (w : World) (h1 : L1.length ≤ 4194304) (h2 : L2.length ≤ 4194304) (o1 : OwnI b1 w v1 L1) (o2 : OwnI b2 w v2 L2) :
    Calls Tryz.prog 45 #[.agg #[.int .i64 x, .int .i64 y, v1, v2]] w fun e w' => e = .returned (.bool (cfgOk x y L1 L2)) ∧ Below w.heap.size w w' := by
  obtain ⟨W, hW⟩ : ∃ W, W = w.alloc (.cells #[.int .i64 x, .int .i64 y, v1, v2] 37) := ⟨_, rfl⟩
  have hB : Below w.heap.size w W := by rw [hW]; exact (Below.refl _ _).alloc (Nat.le_refl _) _
  have HC := Lib.hid (show BoxC W w.heap.size 37 #[.int .i64 x, .int .i64 y, v1, v2] by rw [hW]; exact BoxC.new _ _ _)
  have j1 := implGroupOfO x y b1 b2 v1 v2 L1 L2 W h1 h2 (o1.later hB) (o2.later hB)
  have HB := Lib.hid hB
  have HW := Lib.hid hW
  obtain ⟨y1, q1, rfl⟩ := o1.shape
  obtain ⟨y2, q2, rfl⟩ := o2.shape
  clear hB hW o1 o2
  have HY := Lib.hid (fun h => gV_yes (x := x) (y := y) (L1 := L1) (L2 := L2) h)
  have HN := Lib.hid (fun h => gV_no (x := x) (y := y) (L1 := L1) (L2 := L2) h)
  cases e1 : cfgOk x y L1 L2 with
  | false =>
    rw [e1, HN.out e1] at j1
    have J1 := Lib.hid j1
    clear e1 j1
    go_enter Tryz.func45, Tryz.ntmps45
    go_wp2_with fail
    rw [← HW.out]
    have x0 := HC.out.c 0 rfl
    have x1 := HC.out.c 1 rfl
    have x2 := HC.out.c 2 rfl
    have x3 := HC.out.c 3 rfl
    go_wp2_with fail
    refine J1.out.mono ?_
    rintro e w1 ⟨rfl, hb⟩
    replace HB := Lib.hid (HB.out.trans (hb.mono HB.out.size))
    clear hb HW J1 HC x0 x1 x2 x3
    go_wp2_with fail
    go_ret
    exact ⟨rfl, HB.out.alloc HB.out.size _⟩
  | true =>
    rw [e1, HY.out e1] at j1
    have J1 := Lib.hid j1
    clear e1 j1
    go_enter Tryz.func45, Tryz.ntmps45
    go_wp2_with fail
    rw [← HW.out]
    have x0 := HC.out.c 0 rfl
    have x1 := HC.out.c 1 rfl
    have x2 := HC.out.c 2 rfl
    have x3 := HC.out.c 3 rfl
    go_wp2_with fail
    refine J1.out.mono ?_
    rintro e w1 ⟨rfl, hb⟩
    replace HB := Lib.hid (HB.out.trans (hb.mono HB.out.size))
    clear hb HW J1 HC x0 x1 x2 x3
    go_wp2_with fail
    go_ret
    exact ⟨rfl, HB.out.alloc HB.out.size _⟩
end Go.Proofs.YtgjebjoaemeeoaaGreatDoor.kit
namespace Go.Proofs.YtgjebjoaemeeoaaGreatDoor.kit
open Go.ChangeShapes Go.WideShapes Go.ChangeAt Go.RowKit
set_option linter.unusedVariables false

set_option maxRecDepth 100000 in
set_option maxHeartbeats 2000000 in
theorem specPut (b : Nat) (v : Value) (l : List Int) (x : Int) (w : World) (hl : l.length ≤ 4194304) (o : OwnI b w v l) :
    Calls Tryz.prog 88 #[v, .int .i64 x] w fun e w' => ∃ v', e = .returned v' ∧ OwnI w.heap.size w' v' (put l x) ∧ Below w.heap.size w w' := by
  obtain ⟨a, c, rfl, hlc, hcm, hat, hblk⟩ := o.form
  have HA := Lib.hid hat
  have HO := Lib.hid o
  have HK := Lib.hid hblk
  clear hat o hblk
  unfold maxLen at hcm
  go_enter Tryz.func88, Tryz.ntmps88
  go_wp2_with fail
  go_loop [5] (fun i => ∃ k : Nat, k ≤ l.length ∧ i = .int .i64 k ∧ Hid (∀ j, j < k → l.getD j 0 < x)) (fun i => l.length - (intOf i).toNat)
  case atStart => exact ⟨0, Nat.zero_le _, rfl, Lib.hid (fun j h => by omega)⟩
  case round =>
    obtain ⟨k, hk, rfl, HE⟩ := hrel
    by_cases hlt : k < l.length
    · obtain ⟨p, rfl, hp, hc⟩ := HA.out k hlt
      by_cases hz : l.getD k 0 < x
      · have HF := Lib.hid (show ∀ j, j < k + 1 → l.getD j 0 < x from fun j hj => by
          by_cases e : j = k
          · subst e; exact hz
          · exact HE.out j (by omega))
        generalize l.getD k 0 = z at *
        go_wp2_with fail
        go_round
        case rel => exact ⟨k + 1, by omega, by go_num, HF⟩
        case measure => simp [intOf]; omega
      · have HL := Lib.hid (low_eq hk HE.out (fun _ => hz))
        by_cases he : l.getD k 0 = x
        · have HP := Lib.hid (show put l x = l by unfold put; rw [HL.out, if_pos ⟨hlt, he⟩])
          obtain ⟨g, c', hv, _, _, _, hg⟩ := HO.out.there (by omega)
          obtain ⟨rfl, rfl⟩ : p = ⟨g, 0, none⟩ ∧ c = c' := by cases hv; exact ⟨rfl, rfl⟩
          have hs0 := HO.out.cells
          have HS := Lib.hid (show ∀ j, j < l.length → w.cell? ⟨g, j, none⟩ = some (.int .i64 (l.getD j 0)) from fun j hj => by have := hs0 j hj; rwa [Nat.zero_add] at this)
          replace hc := HS.out k hlt
          rw [he] at hc
          have g1 : decide (x < x) = false := by simp
          clear hv hs0 hz he
          go_wp2_with (at_builtin; refine wpList_appI rfl (.tmp 32) (.tmp 33) rfl w.heap.size _ [] rfl (World.ownsRow_lit w #[] 0 (Nat.le_refl _) (Nat.zero_le _) rfl) w.heap.size _ l rfl (SrcI.row hg rfl (fun j hj => ((Below.refl w.heap.size w).alloc (Nat.le_refl _) _).cell hg |>.trans (HS.out j hj))) (by simp <;> omega) (by simp) ?_; intro v1 w1 ho1 hb1 hg1)
          go_ret
          exact ⟨v1, rfl, by rw [HP.out]; simpa using ho1, ((Below.refl _ _).alloc (Nat.le_refl _) _).trans hb1⟩
        · have HP := Lib.hid (show put l x = l.take k ++ x :: l.drop k by unfold put; rw [HL.out, if_neg (fun h => he h.2)])
          obtain ⟨g, c', hv, _, _, _, hg⟩ := HO.out.there (by omega)
          obtain ⟨rfl, rfl⟩ : p = ⟨g, 0, none⟩ ∧ c = c' := by cases hv; exact ⟨rfl, rfl⟩
          have hs0 := HO.out.cells
          have HS := Lib.hid (show ∀ j, j < l.length → w.cell? ⟨g, j, none⟩ = some (.int .i64 (l.getD j 0)) from fun j hj => by have := hs0 j hj; rwa [Nat.zero_add] at this)
          replace hc := HS.out k hlt
          generalize l.getD k 0 = z at *
          have g2 : (z == x) = false := by rw [beq_eq_false_iff_ne]; exact he
          have hkc : k < c := by omega
          have hkc1 : k ≤ c := by omega
          have hkl : k ≤ l.length := by omega
          have hck : ¬ c = k := by omega
          clear hv hs0 he
          go_wp2_with fail
          clear g2 hc hz
          have HS1 := Lib.hid (SrcI.row (w := w) (B := w.heap.size) (g := g) (m := k) (c := c) (l := l.take k) hg (by rw [List.length_take]; omega) (fun j hj => by rw [List.length_take] at hj; rw [getD_take (by omega)]; exact HS.out j (by omega)))
          have HS2 := Lib.hid (SrcI.part (w := w) (B := w.heap.size) (g := g) (off := k) (m := l.length - k) (c := c - k) (l := l.drop k) hg (by rw [List.length_drop]) (fun j hj => by rw [List.length_drop] at hj; have := HS.out (k + j) (by omega); rwa [show l.getD (k + j) 0 = (l.drop k).getD j 0 by simp [List.getD]] at this))
          have HX1 := Lib.hid (show SrcI (w.heap.size + 2) ((w.alloc (.cells #[] 3)).alloc (.cells #[.int .i64 x] 3)) (.slice (some ⟨w.heap.size + 1, 0, none⟩) 1 1) [x] by have h := SrcI.lit (w.alloc (.cells #[] 3)) x; simp only [World.size_alloc] at h; exact h)
          have HX2 := Lib.hid (SrcI.lit w x)
          have HE1 := Lib.hid (show OwnI w.heap.size (w.alloc (.cells #[] 3)) (.slice (some ⟨w.heap.size, 0, none⟩) 0 0) [] from World.ownsRow_lit w #[] 0 (Nat.le_refl _) (Nat.zero_le _) rfl)
          have HE2 := Lib.hid (show OwnI w.heap.size ((w.alloc (.cells #[.int .i64 x] 3)).alloc (.cells #[] 3)) (.slice (some ⟨w.heap.size + 1, 0, none⟩) 0 0) [] by have h := World.ownsRow_lit (e := 3) (size := 1) (base := w.heap.size) (w.alloc (.cells #[.int .i64 x] 3)) #[] 0 (by simp) (Nat.zero_le _) rfl; simp only [World.size_alloc] at h; exact h)
          go_region_law (first
            | (refine step_appI rfl (.tmp 35) (.tmp 38) rfl w.heap.size _ [] rfl (by first | (exact OwnI.later HE1.out (by go_grown)) | (exact OwnI.later HE2.out (by go_grown))) w.heap.size _ (l.take k) rfl (HS1.out.below (B' := w.heap.size) (by go_grown) (Nat.le_refl _)) (by simp <;> omega) (by go_size) ?_; intro v1 w1 ho1 hb1 hg1; have hz1 : w.heap.size ≤ w1.heap.size := Nat.le_trans (by go_size) hb1.size; have HB1 : Below w.heap.size w w1 := Below.trans (by go_grown) hb1)
            | (refine step_appI rfl (.tmp 39) (.tmp 41) rfl w.heap.size _ ([] ++ l.take k) rfl (OwnI.later ho1 (by go_grown)) _ _ [x] rfl (by first | (exact (SrcI.lit w1 x).below (B' := w1.heap.size + 1) (by go_grown) (Nat.le_refl _)) | (exact SrcI.grown (B := w.heap.size + 2) (HX1.out.below (B' := w.heap.size + 2) (by go_grown) (Nat.le_refl _)) hg1 (by go_size) (fun g ad n c e1 e2 => by cases e1; cases e2; simp)) | (exact SrcI.grown (B := w.heap.size + 1) (HX2.out.below (B' := w.heap.size + 1) (by go_grown) (Nat.le_refl _)) hg1 (by go_size) (fun g ad n c e1 e2 => by cases e1; cases e2; simp))) (by simp <;> omega) (by go_size) ?_; intro v2 w2 ho2 hb2 hg2; have hz2 : w.heap.size ≤ w2.heap.size := Nat.le_trans (by go_size) hb2.size; have HB2 : Below w.heap.size w w2 := Below.trans (by go_grown) hb2)
            | (refine step_appI rfl (.tmp 42) (.tmp 45) rfl w.heap.size _ (([] ++ l.take k) ++ [x]) rfl (OwnI.later ho2 (by go_grown)) w.heap.size _ (l.drop k) rfl (HS2.out.below (B' := w.heap.size) (by go_grown) (Nat.le_refl _)) (by simp <;> omega) (by go_size) ?_; intro v3 w3 ho3 hb3 hg3; have HB3 : Below w.heap.size w w3 := Below.trans (by go_grown) hb3))
          all_goals
            go_wp2_with fail
            go_ret
            exact ⟨v3, rfl, by rw [HP.out]; simpa using ho3, HB3⟩
    · have HL := Lib.hid (low_eq hk HE.out (fun h => absurd h hlt))
      obtain rfl : k = l.length := by omega
      have HP := Lib.hid (show put l x = l.take l.length ++ x :: l.drop l.length by unfold put; rw [HL.out, if_neg (fun h => by omega)])
      clear hlt hk
      have hkc : ∀ c : Nat, l.length ≤ c → ¬ (c < l.length) := fun c h => by omega
      rcases HO.out.2 with ⟨hv, h0⟩ | ⟨g, c', cur, hv, hg0, hh, hn, hm, _⟩
      · obtain rfl : l = [] := List.eq_nil_of_length_eq_zero h0
        cases hv
        have HS1 := Lib.hid (show SrcI w.heap.size w (.slice none 0 0) (([] : List Int).take 0) from .inl ⟨rfl, rfl⟩)
        have HS2 := Lib.hid (show SrcI w.heap.size w (.slice none 0 0) (([] : List Int).drop 0) from .inl ⟨rfl, rfl⟩)
        have hkl : ([] : List Int).length ≤ ([] : List Int).length := Nat.le_refl _
        go_wp2_with fail
        have HX1 := Lib.hid (show SrcI (w.heap.size + 2) ((w.alloc (.cells #[] 3)).alloc (.cells #[.int .i64 x] 3)) (.slice (some ⟨w.heap.size + 1, 0, none⟩) 1 1) [x] by have h := SrcI.lit (w.alloc (.cells #[] 3)) x; simp only [World.size_alloc] at h; exact h)
        have HX2 := Lib.hid (SrcI.lit w x)
        have HE1 := Lib.hid (show OwnI w.heap.size (w.alloc (.cells #[] 3)) (.slice (some ⟨w.heap.size, 0, none⟩) 0 0) [] from World.ownsRow_lit w #[] 0 (Nat.le_refl _) (Nat.zero_le _) rfl)
        have HE2 := Lib.hid (show OwnI w.heap.size ((w.alloc (.cells #[.int .i64 x] 3)).alloc (.cells #[] 3)) (.slice (some ⟨w.heap.size + 1, 0, none⟩) 0 0) [] by have h := World.ownsRow_lit (e := 3) (size := 1) (base := w.heap.size) (w.alloc (.cells #[.int .i64 x] 3)) #[] 0 (by simp) (Nat.zero_le _) rfl; simp only [World.size_alloc] at h; exact h)
        go_region_law (first
          | (refine step_appI rfl (.tmp 35) (.tmp 38) rfl w.heap.size _ [] rfl (by first | (exact OwnI.later HE1.out (by go_grown)) | (exact OwnI.later HE2.out (by go_grown))) w.heap.size _ (([] : List Int).take 0) rfl (HS1.out.below (B' := w.heap.size) (by go_grown) (Nat.le_refl _)) (by simp <;> omega) (by go_size) ?_; intro v1 w1 ho1 hb1 hg1; have hz1 : w.heap.size ≤ w1.heap.size := Nat.le_trans (by go_size) hb1.size; have HB1 : Below w.heap.size w w1 := Below.trans (by go_grown) hb1)
          | (refine step_appI rfl (.tmp 39) (.tmp 41) rfl w.heap.size _ ([] ++ ([] : List Int).take 0) rfl (OwnI.later ho1 (by go_grown)) _ _ [x] rfl (by first | (exact (SrcI.lit w1 x).below (B' := w1.heap.size + 1) (by go_grown) (Nat.le_refl _)) | (exact SrcI.grown (B := w.heap.size + 2) (HX1.out.below (B' := w.heap.size + 2) (by go_grown) (Nat.le_refl _)) hg1 (by go_size) (fun g ad n c e1 e2 => by cases e1; cases e2; simp)) | (exact SrcI.grown (B := w.heap.size + 1) (HX2.out.below (B' := w.heap.size + 1) (by go_grown) (Nat.le_refl _)) hg1 (by go_size) (fun g ad n c e1 e2 => by cases e1; cases e2; simp))) (by simp <;> omega) (by go_size) ?_; intro v2 w2 ho2 hb2 hg2; have hz2 : w.heap.size ≤ w2.heap.size := Nat.le_trans (by go_size) hb2.size; have HB2 : Below w.heap.size w w2 := Below.trans (by go_grown) hb2)
          | (refine step_appI rfl (.tmp 42) (.tmp 45) rfl w.heap.size _ (([] ++ ([] : List Int).take 0) ++ [x]) rfl (OwnI.later ho2 (by go_grown)) w.heap.size _ (([] : List Int).drop 0) rfl (HS2.out.below (B' := w.heap.size) (by go_grown) (Nat.le_refl _)) (by simp <;> omega) (by go_size) ?_; intro v3 w3 ho3 hb3 hg3; have HB3 : Below w.heap.size w w3 := Below.trans (by go_grown) hb3))
        all_goals
          go_wp2_with fail
          go_ret
          exact ⟨v3, rfl, by rw [HP.out]; simpa using ho3, HB3⟩
      · cases hv
        have hg : g < w.heap.size := (Array.getElem?_eq_some_iff.1 hh).1
        have hkc1 : l.length ≤ c := hn
        clear hkc
        have HS1 := Lib.hid (SrcI.row (w := w) (B := w.heap.size) (g := g) (m := l.length) (c := c) (l := l.take l.length) hg (by simp) (fun j hj => by rw [List.take_length] at *; have := HO.out.cells j hj; rwa [Nat.zero_add] at this))
        by_cases hck : c = l.length
        · subst hck
          have HS2 := Lib.hid (SrcI.row (w := w) (B := w.heap.size) (g := g) (m := 0) (c := 0) (l := l.drop l.length) hg (by simp) (fun j hj => by simp at hj))
          go_wp2_with fail
          have HX1 := Lib.hid (show SrcI (w.heap.size + 2) ((w.alloc (.cells #[] 3)).alloc (.cells #[.int .i64 x] 3)) (.slice (some ⟨w.heap.size + 1, 0, none⟩) 1 1) [x] by have h := SrcI.lit (w.alloc (.cells #[] 3)) x; simp only [World.size_alloc] at h; exact h)
          have HX2 := Lib.hid (SrcI.lit w x)
          have HE1 := Lib.hid (show OwnI w.heap.size (w.alloc (.cells #[] 3)) (.slice (some ⟨w.heap.size, 0, none⟩) 0 0) [] from World.ownsRow_lit w #[] 0 (Nat.le_refl _) (Nat.zero_le _) rfl)
          have HE2 := Lib.hid (show OwnI w.heap.size ((w.alloc (.cells #[.int .i64 x] 3)).alloc (.cells #[] 3)) (.slice (some ⟨w.heap.size + 1, 0, none⟩) 0 0) [] by have h := World.ownsRow_lit (e := 3) (size := 1) (base := w.heap.size) (w.alloc (.cells #[.int .i64 x] 3)) #[] 0 (by simp) (Nat.zero_le _) rfl; simp only [World.size_alloc] at h; exact h)
          go_region_law (first
            | (refine step_appI rfl (.tmp 35) (.tmp 38) rfl w.heap.size _ [] rfl (by first | (exact OwnI.later HE1.out (by go_grown)) | (exact OwnI.later HE2.out (by go_grown))) w.heap.size _ (l.take l.length) rfl (HS1.out.below (B' := w.heap.size) (by go_grown) (Nat.le_refl _)) (by simp <;> omega) (by go_size) ?_; intro v1 w1 ho1 hb1 hg1; have hz1 : w.heap.size ≤ w1.heap.size := Nat.le_trans (by go_size) hb1.size; have HB1 : Below w.heap.size w w1 := Below.trans (by go_grown) hb1)
            | (refine step_appI rfl (.tmp 39) (.tmp 41) rfl w.heap.size _ ([] ++ l.take l.length) rfl (OwnI.later ho1 (by go_grown)) _ _ [x] rfl (by first | (exact (SrcI.lit w1 x).below (B' := w1.heap.size + 1) (by go_grown) (Nat.le_refl _)) | (exact SrcI.grown (B := w.heap.size + 2) (HX1.out.below (B' := w.heap.size + 2) (by go_grown) (Nat.le_refl _)) hg1 (by go_size) (fun g ad n c e1 e2 => by cases e1; cases e2; simp)) | (exact SrcI.grown (B := w.heap.size + 1) (HX2.out.below (B' := w.heap.size + 1) (by go_grown) (Nat.le_refl _)) hg1 (by go_size) (fun g ad n c e1 e2 => by cases e1; cases e2; simp))) (by simp <;> omega) (by go_size) ?_; intro v2 w2 ho2 hb2 hg2; have hz2 : w.heap.size ≤ w2.heap.size := Nat.le_trans (by go_size) hb2.size; have HB2 : Below w.heap.size w w2 := Below.trans (by go_grown) hb2)
            | (refine step_appI rfl (.tmp 42) (.tmp 45) rfl w.heap.size _ (([] ++ l.take l.length) ++ [x]) rfl (OwnI.later ho2 (by go_grown)) w.heap.size _ (l.drop l.length) rfl (HS2.out.below (B' := w.heap.size) (by go_grown) (Nat.le_refl _)) (by simp <;> omega) (by go_size) ?_; intro v3 w3 ho3 hb3 hg3; have HB3 : Below w.heap.size w w3 := Below.trans (by go_grown) hb3))
          all_goals
            go_wp2_with fail
            go_ret
            exact ⟨v3, rfl, by rw [HP.out]; simpa using ho3, HB3⟩
        · have HS2 := Lib.hid (SrcI.part (w := w) (B := w.heap.size) (g := g) (off := l.length) (m := 0) (c := c - l.length) (l := l.drop l.length) hg (by simp) (fun j hj => by simp at hj))
          go_wp2_with fail
          have HX1 := Lib.hid (show SrcI (w.heap.size + 2) ((w.alloc (.cells #[] 3)).alloc (.cells #[.int .i64 x] 3)) (.slice (some ⟨w.heap.size + 1, 0, none⟩) 1 1) [x] by have h := SrcI.lit (w.alloc (.cells #[] 3)) x; simp only [World.size_alloc] at h; exact h)
          have HX2 := Lib.hid (SrcI.lit w x)
          have HE1 := Lib.hid (show OwnI w.heap.size (w.alloc (.cells #[] 3)) (.slice (some ⟨w.heap.size, 0, none⟩) 0 0) [] from World.ownsRow_lit w #[] 0 (Nat.le_refl _) (Nat.zero_le _) rfl)
          have HE2 := Lib.hid (show OwnI w.heap.size ((w.alloc (.cells #[.int .i64 x] 3)).alloc (.cells #[] 3)) (.slice (some ⟨w.heap.size + 1, 0, none⟩) 0 0) [] by have h := World.ownsRow_lit (e := 3) (size := 1) (base := w.heap.size) (w.alloc (.cells #[.int .i64 x] 3)) #[] 0 (by simp) (Nat.zero_le _) rfl; simp only [World.size_alloc] at h; exact h)
          go_region_law (first
            | (refine step_appI rfl (.tmp 35) (.tmp 38) rfl w.heap.size _ [] rfl (by first | (exact OwnI.later HE1.out (by go_grown)) | (exact OwnI.later HE2.out (by go_grown))) w.heap.size _ (l.take l.length) rfl (HS1.out.below (B' := w.heap.size) (by go_grown) (Nat.le_refl _)) (by simp <;> omega) (by go_size) ?_; intro v1 w1 ho1 hb1 hg1; have hz1 : w.heap.size ≤ w1.heap.size := Nat.le_trans (by go_size) hb1.size; have HB1 : Below w.heap.size w w1 := Below.trans (by go_grown) hb1)
            | (refine step_appI rfl (.tmp 39) (.tmp 41) rfl w.heap.size _ ([] ++ l.take l.length) rfl (OwnI.later ho1 (by go_grown)) _ _ [x] rfl (by first | (exact (SrcI.lit w1 x).below (B' := w1.heap.size + 1) (by go_grown) (Nat.le_refl _)) | (exact SrcI.grown (B := w.heap.size + 2) (HX1.out.below (B' := w.heap.size + 2) (by go_grown) (Nat.le_refl _)) hg1 (by go_size) (fun g ad n c e1 e2 => by cases e1; cases e2; simp)) | (exact SrcI.grown (B := w.heap.size + 1) (HX2.out.below (B' := w.heap.size + 1) (by go_grown) (Nat.le_refl _)) hg1 (by go_size) (fun g ad n c e1 e2 => by cases e1; cases e2; simp))) (by simp <;> omega) (by go_size) ?_; intro v2 w2 ho2 hb2 hg2; have hz2 : w.heap.size ≤ w2.heap.size := Nat.le_trans (by go_size) hb2.size; have HB2 : Below w.heap.size w w2 := Below.trans (by go_grown) hb2)
            | (refine step_appI rfl (.tmp 42) (.tmp 45) rfl w.heap.size _ (([] ++ l.take l.length) ++ [x]) rfl (OwnI.later ho2 (by go_grown)) w.heap.size _ (l.drop l.length) rfl (HS2.out.below (B' := w.heap.size) (by go_grown) (Nat.le_refl _)) (by simp <;> omega) (by go_size) ?_; intro v3 w3 ho3 hb3 hg3; have HB3 : Below w.heap.size w w3 := Below.trans (by go_grown) hb3))
          all_goals
            go_wp2_with fail
            go_ret
            exact ⟨v3, rfl, by rw [HP.out]; simpa using ho3, HB3⟩
end Go.Proofs.YtgjebjoaemeeoaaGreatDoor.kit
namespace Go.Proofs.YtgjebjoaemeeoaaGreatDoor.kit
open Go.ChangeShapes Go.WideShapes Go.ChangeAt Go.RowKit
set_option linter.unusedVariables false
set_option linter.unusedSimpArgs false

theorem mem_filter_take (l : List Int) (k : Nat) (hlt : k < l.length) (p : Int → Bool) : (l.take (k + 1)).filter p = if p (l.getD k 0) = true then (l.take k).filter p ++ [l.getD k 0] else (l.take k).filter p := by
  rw [take_snocI l k hlt, List.filter_append]
  by_cases h : p (l.getD k 0) = true
  · rw [if_pos h, List.filter_cons, if_pos h]; rfl
  · rw [if_neg h, List.filter_cons, if_neg h]; simp
set_option maxRecDepth 100000 in
theorem specCommon_any (a1 a2 : Option Addr) (c1 c2 : Nat) (l1 l2 : List Int) (w : World) (h1 : l1.length ≤ 1048576) (h2 : l2.length ≤ 1048576) (ha1 : At w a1 l1) (ha2 : At w a2 l2) :
    Calls Tryz.prog 56 #[.slice a1 l1.length c1, .slice a2 l2.length c2] w fun e w' => ∃ v, e = .returned v ∧ OwnI w.heap.size w' v (puts [] (l1.filter fun x => decide (x ∈ l2))) ∧ Below w.heap.size w w' := by
  have HA := Lib.hid ha1
  have HA2 := Lib.hid ha2
  clear ha1 ha2
  go_enter Tryz.func56, Tryz.ntmps56
  go_wp2_with fail
  go_loopw [5, 6] (fun v i wr => ∃ k : Nat, k ≤ l1.length ∧ i = .int .i64 k ∧ OwnI w.heap.size wr v (puts [] ((l1.take k).filter fun x => decide (x ∈ l2))) ∧ Below w.heap.size w wr) (fun _ i _ => l1.length - (intOf i).toNat)
  case atStart => exact ⟨0, Nat.zero_le _, rfl, World.ownsRow_lit w #[] 0 (Nat.le_refl _) (Nat.zero_le _) rfl, (Below.refl _ _).alloc (Nat.le_refl _) _⟩
  case round =>
    obtain ⟨k, hk, rfl, ho, hb⟩ := hrel
    by_cases hlt : k < l1.length
    · obtain ⟨p, rfl, hp, hc⟩ := HA.out k hlt
      have hc' : wr.cell? (p.add k) = some (.int .i64 (l1.getD k 0)) := (hb.cell (p := p.add k) (by unfold Addr.add; split <;> exact hp)).trans hc
      have hlen : (puts [] ((l1.take k).filter fun x => decide (x ∈ l2))).length ≤ 4194304 := by
        have := puts_length ((l1.take k).filter fun x => decide (x ∈ l2)) []
        have h3 := List.length_filter_le (fun x => decide (x ∈ l2)) (l1.take k)
        rw [List.length_take] at h3; simp only [List.length_nil, Nat.zero_add] at this; omega
      have C1 := Lib.hid (specPut _ _ _ (l1.getD k 0) wr hlen ho)
      have C0 := Lib.hid (specHas_any a2 c2 l2 (l1.getD k 0) wr (by omega) (HA2.out.later hb))
      have HT := Lib.hid (mem_filter_take l1 k hlt (fun x => decide (x ∈ l2)))
      have hs := hb.size
      have HB := Lib.hid hb
      by_cases hm : l1.getD k 0 ∈ l2
      · rw [decide_eq_true hm] at C0
        have HT2 := Lib.hid (show puts [] ((l1.take (k + 1)).filter fun x => decide (x ∈ l2)) = put (puts [] ((l1.take k).filter fun x => decide (x ∈ l2))) (l1.getD k 0) by rw [HT.out]; simp only [hm]; simp [puts_snoc])
        have HO := Lib.hid ho
        clear hc hlen ho hb hm HT
        generalize l1.getD k 0 = z at *
        go_wp2_with (first | (go_at_call 55; refine (C0.out).mono ?_; rintro e w1 ⟨rfl, rfl⟩) | (go_at_call 88; refine (C1.out).mono ?_; rintro e w1 ⟨v1, rfl, ho1, hb1⟩))
        go_roundw
        case rel => exact ⟨k + 1, by omega, by go_num, by rw [HT2.out]; exact ho1.mono hs, HB.out.trans (hb1.mono hs)⟩
        case measure => simp [intOf]; omega
      · rw [decide_eq_false hm] at C0
        have HT2 := Lib.hid (show puts [] ((l1.take (k + 1)).filter fun x => decide (x ∈ l2)) = puts [] ((l1.take k).filter fun x => decide (x ∈ l2)) by rw [HT.out]; simp only [hm]; simp [puts_snoc])
        have HO := Lib.hid ho
        clear hc hlen ho hb hm HT
        generalize l1.getD k 0 = z at *
        go_wp2_with (first | (go_at_call 55; refine (C0.out).mono ?_; rintro e w1 ⟨rfl, rfl⟩) | (go_at_call 88; refine (C1.out).mono ?_; rintro e w1 ⟨v1, rfl, ho1, hb1⟩))
        go_roundw
        case rel => exact ⟨k + 1, by omega, by go_num, by rw [HT2.out]; exact HO.out, HB.out⟩
        case measure => simp [intOf]; omega
    · obtain rfl : k = l1.length := by omega
      rw [List.take_length] at ho
      have HO := Lib.hid ho
      have HB := Lib.hid hb
      clear hlt hk ho hb
      go_wp2_with fail
      go_ret
      exact ⟨_, rfl, HO.out, HB.out⟩
theorem specCommonServers (b1 : Nat) (v1 : Value) (l1 : List Int) (b2 : Nat) (v2 : Value) (l2 : List Int) (w : World) (h1 : l1.length ≤ 1048576) (o1 : OwnI b1 w v1 l1) (h2 : l2.length ≤ 1048576) (o2 : OwnI b2 w v2 l2) :
    Calls Tryz.prog 56 #[v1, v2] w fun e w' => ∃ v, e = .returned v ∧ OwnI w.heap.size w' v (common l1 l2) ∧ Below w.heap.size w w' := by
  obtain ⟨a1, c1, rfl, _, _, at1, _⟩ := o1.form
  obtain ⟨a2, c2, rfl, _, _, at2, _⟩ := o2.form
  exact specCommon_any a1 a2 c1 c2 l1 l2 w h1 h2 at1 at2
set_option maxRecDepth 100000 in
theorem specWithout_any (a1 a2 : Option Addr) (c1 c2 : Nat) (l1 l2 : List Int) (w : World) (h1 : l1.length ≤ 1048576) (h2 : l2.length ≤ 1048576) (ha1 : At w a1 l1) (ha2 : At w a2 l2) :
    Calls Tryz.prog 99 #[.slice a1 l1.length c1, .slice a2 l2.length c2] w fun e w' => ∃ v, e = .returned v ∧ OwnI w.heap.size w' v (puts [] (l1.filter fun x => decide (x ∉ l2))) ∧ Below w.heap.size w w' := by
  have HA := Lib.hid ha1
  have HA2 := Lib.hid ha2
  clear ha1 ha2
  go_enter Tryz.func99, Tryz.ntmps99
  go_wp2_with fail
  go_loopw [5, 6] (fun v i wr => ∃ k : Nat, k ≤ l1.length ∧ i = .int .i64 k ∧ OwnI w.heap.size wr v (puts [] ((l1.take k).filter fun x => decide (x ∉ l2))) ∧ Below w.heap.size w wr) (fun _ i _ => l1.length - (intOf i).toNat)
  case atStart => exact ⟨0, Nat.zero_le _, rfl, World.ownsRow_lit w #[] 0 (Nat.le_refl _) (Nat.zero_le _) rfl, (Below.refl _ _).alloc (Nat.le_refl _) _⟩
  case round =>
    obtain ⟨k, hk, rfl, ho, hb⟩ := hrel
    by_cases hlt : k < l1.length
    · obtain ⟨p, rfl, hp, hc⟩ := HA.out k hlt
      have hc' : wr.cell? (p.add k) = some (.int .i64 (l1.getD k 0)) := (hb.cell (p := p.add k) (by unfold Addr.add; split <;> exact hp)).trans hc
      have hlen : (puts [] ((l1.take k).filter fun x => decide (x ∉ l2))).length ≤ 4194304 := by
        have := puts_length ((l1.take k).filter fun x => decide (x ∉ l2)) []
        have h3 := List.length_filter_le (fun x => decide (x ∉ l2)) (l1.take k)
        rw [List.length_take] at h3; simp only [List.length_nil, Nat.zero_add] at this; omega
      have C1 := Lib.hid (specPut _ _ _ (l1.getD k 0) wr hlen ho)
      have C0 := Lib.hid (specHas_any a2 c2 l2 (l1.getD k 0) wr (by omega) (HA2.out.later hb))
      have HT := Lib.hid (mem_filter_take l1 k hlt (fun x => decide (x ∉ l2)))
      have hs := hb.size
      have HB := Lib.hid hb
      by_cases hm : l1.getD k 0 ∈ l2
      · rw [decide_eq_true hm] at C0
        have HT2 := Lib.hid (show puts [] ((l1.take (k + 1)).filter fun x => decide (x ∉ l2)) = puts [] ((l1.take k).filter fun x => decide (x ∉ l2)) by rw [HT.out]; simp only [hm]; simp [puts_snoc])
        have HO := Lib.hid ho
        clear hc hlen ho hb hm HT
        generalize l1.getD k 0 = z at *
        go_wp2_with (first | (go_at_call 55; refine (C0.out).mono ?_; rintro e w1 ⟨rfl, rfl⟩) | (go_at_call 88; refine (C1.out).mono ?_; rintro e w1 ⟨v1, rfl, ho1, hb1⟩))
        go_roundw
        case rel => exact ⟨k + 1, by omega, by go_num, by rw [HT2.out]; exact HO.out, HB.out⟩
        case measure => simp [intOf]; omega
      · rw [decide_eq_false hm] at C0
        have HT2 := Lib.hid (show puts [] ((l1.take (k + 1)).filter fun x => decide (x ∉ l2)) = put (puts [] ((l1.take k).filter fun x => decide (x ∉ l2))) (l1.getD k 0) by rw [HT.out]; simp only [hm]; simp [puts_snoc])
        have HO := Lib.hid ho
        clear hc hlen ho hb hm HT
        generalize l1.getD k 0 = z at *
        go_wp2_with (first | (go_at_call 55; refine (C0.out).mono ?_; rintro e w1 ⟨rfl, rfl⟩) | (go_at_call 88; refine (C1.out).mono ?_; rintro e w1 ⟨v1, rfl, ho1, hb1⟩))
        go_roundw
        case rel => exact ⟨k + 1, by omega, by go_num, by rw [HT2.out]; exact ho1.mono hs, HB.out.trans (hb1.mono hs)⟩
        case measure => simp [intOf]; omega
    · obtain rfl : k = l1.length := by omega
      rw [List.take_length] at ho
      have HO := Lib.hid ho
      have HB := Lib.hid hb
      clear hlt hk ho hb
      go_wp2_with fail
      go_ret
      exact ⟨_, rfl, HO.out, HB.out⟩
theorem specWithoutServers (b1 : Nat) (v1 : Value) (l1 : List Int) (b2 : Nat) (v2 : Value) (l2 : List Int) (w : World) (h1 : l1.length ≤ 1048576) (o1 : OwnI b1 w v1 l1) (h2 : l2.length ≤ 1048576) (o2 : OwnI b2 w v2 l2) :
    Calls Tryz.prog 99 #[v1, v2] w fun e w' => ∃ v, e = .returned v ∧ OwnI w.heap.size w' v (without l1 l2) ∧ Below w.heap.size w w' := by
  obtain ⟨a1, c1, rfl, _, _, at1, _⟩ := o1.form
  obtain ⟨a2, c2, rfl, _, _, at2, _⟩ := o2.form
  exact specWithout_any a1 a2 c1 c2 l1 l2 w h1 h2 at1 at2
end Go.Proofs.YtgjebjoaemeeoaaGreatDoor.kit
namespace Go.Proofs.YtgjebjoaemeeoaaGreatDoor.kit
open Go.ChangeShapes Go.WideShapes Go.ChangeAt Go.RowKit
set_option linter.unusedVariables false
set_option linter.unusedSimpArgs false

theorem specEp (x : Int) (w : World) : Calls Tryz.prog 53 #[.int .i64 x, .int .i64 1, .int .i64 20] w fun e w' => e = .returned (.bool (inE x)) ∧ w = w' := by
  unfold inE
  by_cases h1 : 1 ≤ x
  · by_cases h2 : x ≤ 20
    · rw [decide_eq_true ⟨h1, h2⟩]; exact in_true x 1 20 w h1 h2
    · rw [decide_eq_false (by omega)]; exact in_false x 1 20 w (by omega)
  · rw [decide_eq_false (by omega)]; exact in_false x 1 20 w (by omega)
set_option maxRecDepth 100000 in
set_option maxHeartbeats 2000000 in
theorem specIsValidConfigA (x y : Int) (a1 : Option Addr) (q1 : Nat) (L1 : List Int) (a2 : Option Addr) (q2 : Nat) (L2 : List Int) (w : World) (h1 : L1.length ≤ 1048576) (h2 : L2.length ≤ 1048576) (ha1 : At w a1 L1) (ha2 : At w a2 L2) :
    Calls Tryz.prog 19 #[.agg #[.int .i64 x, .int .i64 y, .slice a1 L1.length q1, .slice a2 L2.length q2]] w fun e w' => e = .returned (.bool (cfgOk x y L1 L2)) ∧ Below w.heap.size w w' := by
  obtain ⟨W, hW⟩ : ∃ W, W = w.alloc (.cells #[.int .i64 x, .int .i64 y, .slice a1 L1.length q1, .slice a2 L2.length q2] 37) := ⟨_, rfl⟩
  have hB : Below w.heap.size w W := by rw [hW]; exact (Below.refl _ _).alloc (Nat.le_refl _) _
  have HC := Lib.hid (show BoxC W w.heap.size 37 #[.int .i64 x, .int .i64 y, .slice a1 L1.length q1, .slice a2 L2.length q2] by rw [hW]; exact BoxC.new _ _ _)
  have HB := Lib.hid hB
  have HW := Lib.hid hW
  have HP := Lib.hid (cfgOk_parts x y L1 L2)
  have j0 := specEp x W
  have J1 := Lib.hid (specAre_any a1 q1 L1 W (by omega) (ha1.later hB))
  have J2 := Lib.hid (fun W' (h : Below w.heap.size w W') => specAre_any a2 q2 L2 W' (by omega) (ha2.later h))
  have J3 := Lib.hid (fun W' (h : Below w.heap.size w W') => specHas_any a1 q1 L1 y W' (by omega) (ha1.later h))
  have J4 := Lib.hid (fun W' (h : Below w.heap.size w W') => specCommon_any a1 a2 q1 q2 L1 L2 W' h1 h2 (ha1.later h) (ha2.later h))
  generalize inE x = p at *
  have J0 := Lib.hid j0
  clear j0 hB hW ha1 ha2
  go_enter Tryz.func19, Tryz.ntmps19
  go_wp2_with fail
  rw [← HW.out]
  have x0 := HC.out.c 0 rfl
  have x1 := HC.out.c 1 rfl
  have x2 := HC.out.c 2 rfl
  have x3 := HC.out.c 3 rfl
  clear HW
  refine J0.out.mono ?_
  rintro e w1 ⟨rfl, rfl⟩
  cases p with
  | false =>
    rw [Bool.false_and] at HP
    clear J0 J1 J2 J3 J4
    go_wp2_with fail
    go_ret
    exact ⟨by rw [HP.out]; rfl, HB.out⟩
  | true =>
    rw [Bool.true_and] at HP
    go_wp2_with fail
    refine J1.out.mono ?_
    rintro e w1 ⟨rfl, hd⟩
    replace HB := Lib.hid (HB.out.trans (hd.below w.heap.size))
    replace x0 := hd.cell x0
    replace x1 := hd.cell x1
    replace x2 := hd.cell x2
    replace x3 := hd.cell x3
    clear hd J0 J1
    cases e1 : are L1 with
    | false =>
      rw [e1, Bool.false_and] at HP
      clear e1 J2 J3 J4
      go_wp2_with fail
      go_ret
      exact ⟨by rw [HP.out]; rfl, HB.out⟩
    | true =>
      rw [e1, Bool.true_and] at HP
      clear e1
      go_wp2_with fail
      refine (J2.out _ HB.out).mono ?_
      rintro e w2 ⟨rfl, hd⟩
      replace HB := Lib.hid (HB.out.trans (hd.below w.heap.size))
      replace x0 := hd.cell x0
      replace x1 := hd.cell x1
      replace x2 := hd.cell x2
      replace x3 := hd.cell x3
      clear hd J2
      cases e2 : are L2 with
      | false =>
        rw [e2, Bool.false_and] at HP
        clear e2 J3 J4
        go_wp2_with fail
        go_ret
        exact ⟨by rw [HP.out]; rfl, HB.out⟩
      | true =>
        rw [e2, Bool.true_and] at HP
        clear e2
        go_wp2_with fail
        have j3 := J3.out _ HB.out
        generalize decide (y ∈ L1) = r at *
        refine j3.mono ?_
        rintro e w3 ⟨rfl, rfl⟩
        clear j3 J3
        cases r with
        | false =>
          rw [Bool.false_and] at HP
          clear J4
          go_wp2_with fail
          go_ret
          exact ⟨by rw [HP.out]; rfl, HB.out⟩
        | true =>
          rw [Bool.true_and] at HP
          go_wp2_with fail
          refine (J4.out _ HB.out).mono ?_
          rintro e w3 ⟨v, rfl, ho, hb⟩
          obtain ⟨yv, qv, rfl⟩ := ho.shape
          replace HB := Lib.hid (HB.out.trans (hb.mono HB.out.size))
          rw [show puts [] (L1.filter fun x => decide (x ∈ L2)) = common L1 L2 from rfl]
          have hg : (((common L1 L2).length : Int) == 0) = decide ((common L1 L2).length = 0) := by
            rw [Bool.eq_iff_iff, beq_iff_eq, decide_eq_true_iff]; omega
          generalize decide ((common L1 L2).length = 0) = s at *
          generalize common L1 L2 = cc at *
          clear ho hb J4 x0 x1 x2 x3
          go_wp2_with fail
          go_ret
          exact ⟨by rw [HP.out]; rfl, HB.out⟩
theorem specIsValidConfig (x y : Int) (b1 b2 : Nat) (v1 v2 : Value) (L1 L2 : List Int) (w : World) (h1 : L1.length ≤ 1048576) (h2 : L2.length ≤ 1048576) (o1 : OwnI b1 w v1 L1) (o2 : OwnI b2 w v2 L2) :
    Calls Tryz.prog 19 #[.agg #[.int .i64 x, .int .i64 y, v1, v2]] w fun e w' => e = .returned (.bool (cfgOk x y L1 L2)) ∧ Below w.heap.size w w' := by
  obtain ⟨a1, c1, rfl, _, _, t1, _⟩ := o1.form
  obtain ⟨a2, c2, rfl, _, _, t2, _⟩ := o2.form
  exact specIsValidConfigA x y a1 c1 L1 a2 c2 L2 w h1 h2 t1 t2
end Go.Proofs.YtgjebjoaemeeoaaGreatDoor.kit
namespace Go.Proofs.YtgjebjoaemeeoaaGreatDoor.kit
open Go.ChangeShapes Go.WideShapes Go.ChangeAt Go.RowKit
set_option linter.unusedVariables false
set_option linter.unusedSimpArgs false

theorem fmtS_len (l : List Int) : (fmtS l).length ≤ 5 := by
  unfold fmtS
  by_cases h : are l = true
  · rw [if_pos h]
    by_cases h0 : l.length = 0
    · rw [if_pos h0]; simp
    · rw [if_neg h0, digs_length]; exact are_len h
  · rw [if_neg h]; simp
theorem bits_len {m : Nat} (hm : m < 32) : (bitsOf m).length ≤ 4194304 := by
  have := are_len (bits_are hm)
  omega
set_option maxRecDepth 100000 in
set_option maxHeartbeats 8000000 in
theorem specFormatConfig (x y : Int) (b1 b2 : Nat) (v1 v2 : Value) (L1 L2 : List Int) (w : World) (h1 : L1.length ≤ 1048576) (h2 : L2.length ≤ 1048576) (o1 : OwnI b1 w v1 L1) (o2 : OwnI b2 w v2 L2) :
    Calls Tryz.prog 23 #[.agg #[.int .i64 x, .int .i64 y, v1, v2]] w fun e w' => e = .returned (str (fmtC x y L1 L2)) ∧ Below w.heap.size w w' := by
  obtain ⟨WB, hWB⟩ : ∃ W, W = w.alloc (.cells #[.int .i64 x, .int .i64 y, v1, v2] 37) := ⟨_, rfl⟩
  have hB : Below w.heap.size w WB := by rw [hWB]; exact (Below.refl _ _).alloc (Nat.le_refl _) _
  have hz : w.heap.size + 1 ≤ WB.heap.size := by rw [hWB]; simp
  have HC := Lib.hid (show BoxC WB w.heap.size 37 #[.int .i64 x, .int .i64 y, v1, v2] by rw [hWB]; exact BoxC.new _ _ _)
  have J1 := Lib.hid (specIsValidConfig x y b1 b2 v1 v2 L1 L2 WB h1 h2 (o1.later hB) (o2.later hB))
  have J2 := fun W' (h : Below (w.heap.size + 1) WB W' ∧ (∀ b o, b < w.heap.size + 1 → W'.cell? ⟨b, o, none⟩ = WB.cell? ⟨b, o, none⟩)) => specFormatServers b1 v1 L1 W' (by omega) (o1.later (hB.trans (h.1.mono (Nat.le_succ _))))
  have J3 := fun W' (h : Below (w.heap.size + 1) WB W' ∧ (∀ b o, b < w.heap.size + 1 → W'.cell? ⟨b, o, none⟩ = WB.cell? ⟨b, o, none⟩)) => specFormatServers b2 v2 L2 W' (by omega) (o2.later (hB.trans (h.1.mono (Nat.le_succ _))))
  have HB := Lib.hid hB
  have HWB := Lib.hid hWB
  obtain ⟨y1, q1, rfl⟩ := o1.shape
  obtain ⟨y2, q2, rfl⟩ := o2.shape
  clear hB hWB o1 o2
  go_enter Tryz.func23, Tryz.ntmps23
  go_wp2_with fail
  rw [← HWB.out]
  have x0 := HC.out.c 0 rfl
  have x1 := HC.out.c 1 rfl
  have x2 := HC.out.c 2 rfl
  have x3 := HC.out.c 3 rfl
  go_wp2_with fail
  cases e1 : cfgOk x y L1 L2 with
  | false =>
    have HF := Lib.hid (show fmtC x y L1 L2 = [] by unfold fmtC; rw [e1]; rfl)
    rw [e1] at J1
    clear e1 J2 J3
    refine J1.out.mono ?_
    rintro e w1 ⟨rfl, hb⟩
    go_wp2_with fail
    go_ret
    exact ⟨by rw [HF.out]; rfl, HB.out.trans (hb.mono HB.out.size)⟩
  | true =>
    have hc := cfg_of e1
    have hy := cfg_y hc
    have hx := hc.1
    have HF := Lib.hid (show fmtC x y L1 L2 = Lib.itoa x ++ ([32] ++ (Lib.itoa y ++ ([32] ++ (fmtS L1 ++ ([32] ++ fmtS L2))))) by unfold fmtC; rw [if_pos e1])
    rw [e1] at J1
    have lx := itoa_le x (by omega) (by omega)
    have ly := itoa_le y (by omega) (by omega)
    have l1 := fmtS_len L1
    have l2 := fmtS_len L2
    clear e1 hc
    refine J1.out.mono ?_
    rintro e w1 ⟨rfl, hb⟩
    have hk := kept_of (hb.mono hz)
    have hcc := hk.2
    clear hb J1 x0 x1 x2 x3
    have x0 := (hcc w.heap.size 0 (Nat.lt_succ_self _)).trans (HC.out.c 0 rfl)
    have x1 := (hcc w.heap.size 1 (Nat.lt_succ_self _)).trans (HC.out.c 1 rfl)
    have x2 := (hcc w.heap.size 2 (Nat.lt_succ_self _)).trans (HC.out.c 2 rfl)
    have x3 := (hcc w.heap.size 3 (Nat.lt_succ_self _)).trans (HC.out.c 3 rfl)
    clear hcc
    go_wp2_with fail
    have e1 : ¬ (9223372036854775807 < (Lib.itoa x).length + 1) := by omega
    have e2 : ¬ (9223372036854775807 < (Lib.itoa x).length + 1 + (Lib.itoa y).length) := by omega
    have e3 : ¬ (9223372036854775807 < (Lib.itoa x).length + 1 + (Lib.itoa y).length + 1) := by omega
    have e4 : ¬ (9223372036854775807 < (Lib.itoa x).length + 1 + (Lib.itoa y).length + 1 + (fmtS L1).length) := by omega
    have e5 : ¬ (9223372036854775807 < (Lib.itoa x).length + 1 + (Lib.itoa y).length + 1 + (fmtS L1).length + 1) := by omega
    have e6 : ¬ (9223372036854775807 < (Lib.itoa x).length + 1 + (Lib.itoa y).length + 1 + (fmtS L1).length + 1 + (fmtS L2).length) := by omega
    have w0 : WB.cell? ⟨w.heap.size, 0, none⟩ = some (.int .i64 x) := HC.out.c 0 rfl
    have w1' : WB.cell? ⟨w.heap.size, 1, none⟩ = some (.int .i64 y) := HC.out.c 1 rfl
    have w2' : WB.cell? ⟨w.heap.size, 2, none⟩ = some (.slice y1 L1.length q1) := HC.out.c 2 rfl
    have w3' : WB.cell? ⟨w.heap.size, 3, none⟩ = some (.slice y2 L2.length q2) := HC.out.c 3 rfl
    go_region_held3 (fun w' => Below (w.heap.size + 1) WB w' ∧ (∀ b o, b < w.heap.size + 1 → w'.cell? ⟨b, o, none⟩ = WB.cell? ⟨b, o, none⟩)) (first | (with_reducible assumption) | (with_reducible exact kept_drew (by with_reducible assumption)) | (with_reducible exact kept_next (by with_reducible assumption) (by with_reducible assumption) hz))
      (first
        | (go_at_call 57; (with_reducible refine (specFormatInt _ _ (by omega) (by omega)).mono ?_); rintro e w2 ⟨rfl, hb2⟩)
        | (go_at_call 58; (with_reducible refine (J2 _ (by with_reducible assumption)).mono ?_); rintro e w2 ⟨rfl, hb2⟩)
        | (go_at_call 58; (with_reducible refine (J3 _ (by with_reducible assumption)).mono ?_); rintro e w2 ⟨rfl, hb2⟩))
    all_goals
      clear e1 e2 e3 e4 e5 e6
      rename_i hk2
      go_wp2_with fail
      go_ret
      refine ⟨?_, HB.out.trans (hk2.1.mono (Nat.le_succ _))⟩
      rw [HF.out]
      exact congrArg (fun x => Ending.returned (Value.string x)) (by apply ByteArray.ext; apply Array.ext'; simp)
theorem joinFour (W : World) (p0 p1 p2 p3 : List UInt8) (h0 : p0.length ≤ 1000) (h1 : p1.length ≤ 1000) (h2 : p2.length ≤ 1000) (h3 : p3.length ≤ 1000) :
    Calls Tryz.prog 39 #[.slice (some ⟨W.heap.size, 0, none⟩) 4 4, .string { data := #[32] }] (W.alloc (.cells #[str p0, str p1, str p2, str p3] 9)) fun e w' => e = .returned (str (p0 ++ ([32] ++ (p1 ++ ([32] ++ (p2 ++ ([32] ++ p3))))))) ∧ Below (W.alloc (.cells #[str p0, str p1, str p2, str p3] 9)).heap.size (W.alloc (.cells #[str p0, str p1, str p2, str p3] 9)) w' := by
  have e : Lib.join (([⟨p0.toArray⟩, ⟨p1.toArray⟩, ⟨p2.toArray⟩, ⟨p3.toArray⟩] : List ByteArray).map (·.data.toList)) ({ data := #[32] } : ByteArray).data.toList = p0 ++ ([32] ++ (p1 ++ ([32] ++ (p2 ++ ([32] ++ p3))))) := by
    show Lib.join [p0, p1, p2, p3] [32] = _
    rw [join_joinX]
    simp [joinX]
  have j := Tryz.strings_Join W.heap.size 0 4 [⟨p0.toArray⟩, ⟨p1.toArray⟩, ⟨p2.toArray⟩, ⟨p3.toArray⟩] { data := #[32] } (W.alloc (.cells #[str p0, str p1, str p2, str p3] 9)) (fun j x hx => ?_) (by simp) (by simp) (by simp) (by rw [e]; simp; omega)
  · rw [e] at j
    exact j
  · rw [Nat.zero_add, World.cell?_alloc_at _ _ _ _ rfl]
    match j, hx with
    | 0, hx => simp at hx; subst hx; rfl
    | 1, hx => simp at hx; subst hx; rfl
    | 2, hx => simp at hx; subst hx; rfl
    | 3, hx => simp at hx; subst hx; rfl
    | n + 4, hx => simp at hx
set_option maxRecDepth 100000 in
set_option maxHeartbeats 8000000 in
theorem implFormat (x y : Int) (m n : Nat) (w : World) (hx : 1 ≤ x ∧ x ≤ 20) (hy : 0 ≤ y ∧ y ≤ 4) (hm : m < 32) (hn : n < 32) (hT : Tab w) :
    Calls Tryz.prog 43 #[.agg #[.int .i64 x, .int .i64 y, .int .u8 m, .int .u8 n]] w fun e w' => e = .returned (str (Lib.itoa x ++ ([32] ++ (Lib.itoa y ++ ([32] ++ (fmtS (bitsOf m) ++ ([32] ++ fmtS (bitsOf n)))))))) ∧ Below w.heap.size w w' := by
  obtain ⟨WB, hWB⟩ : ∃ W, W = w.alloc (.cells #[.int .i64 x, .int .i64 y, .int .u8 m, .int .u8 n] 83) := ⟨_, rfl⟩
  have hB : Below w.heap.size w WB := by rw [hWB]; exact (Below.refl _ _).alloc (Nat.le_refl _) _
  have hz : w.heap.size + 1 ≤ WB.heap.size := by rw [hWB]; simp
  have HC := Lib.hid (show BoxC WB w.heap.size 83 #[.int .i64 x, .int .i64 y, .int .u8 m, .int .u8 n] by rw [hWB]; exact BoxC.new _ _ _)
  have JI := fun (z : Int) (h : 0 ≤ z ∧ z ≤ 20) W' (h' : Below (w.heap.size + 1) WB W' ∧ (∀ b o, b < w.heap.size + 1 → W'.cell? ⟨b, o, none⟩ = WB.cell? ⟨b, o, none⟩)) => implFormatInt z W' (by omega) (by omega) (hT.below (hB.trans (h'.1.mono (Nat.le_succ _))))
  have JX := JI x (by omega)
  have JY := JI y (by omega)
  have JE := fun W' h' => (show Calls Tryz.prog 79 #[.int .i64 x] W' fun e w' => e = .returned (str (Lib.itoa x)) ∧ Below W'.heap.size W' w' by
    have j := Lib.hid (JX W' h')
    clear JI JX JY
    go_enter Tryz.func79, Tryz.ntmps79
    go_wp2_with fail
    refine j.out.mono ?_
    rintro e w1 ⟨rfl, hb⟩
    go_wp2_with fail
    go_ret
    exact ⟨rfl, hb⟩)
  have JM := fun W' => implNumbers m W' hm
  have JN := fun W' => implNumbers n W' hn
  have lx := itoa_le x (by omega) (by omega)
  have ly := itoa_le y (by omega) (by omega)
  have l1 := fmtS_len (bitsOf m)
  have l2 := fmtS_len (bitsOf n)
  have k1 := bits_len hm
  have k2 := bits_len hn
  have HB := Lib.hid hB
  have HWB := Lib.hid hWB
  have hs0 : w.heap.size < w.heap.size + 1 := Nat.lt_succ_self _
  generalize bitsOf m = M at *
  generalize bitsOf n = N at *
  clear hB hWB JI JX hT
  go_enter Tryz.func43, Tryz.ntmps43
  go_wp2_with fail
  rw [← HWB.out]
  have hk := kept_of (Below.refl (w.heap.size + 1) WB)
  have w0 : WB.cell? ⟨w.heap.size, 0, none⟩ = some (.int .i64 x) := HC.out.c 0 rfl
  have w1' : WB.cell? ⟨w.heap.size, 1, none⟩ = some (.int .i64 y) := HC.out.c 1 rfl
  have w2' : WB.cell? ⟨w.heap.size, 2, none⟩ = some (.int .u8 m) := HC.out.c 2 rfl
  have w3' : WB.cell? ⟨w.heap.size, 3, none⟩ = some (.int .u8 n) := HC.out.c 3 rfl
  go_region_held3 (fun w' => Below (w.heap.size + 1) WB w' ∧ (∀ b o, b < w.heap.size + 1 → w'.cell? ⟨b, o, none⟩ = WB.cell? ⟨b, o, none⟩)) (first | (with_reducible assumption) | (with_reducible exact kept_drew (by with_reducible assumption)) | (with_reducible exact kept_next (by with_reducible assumption) (by with_reducible assumption) hz) | (with_reducible exact kept_alloc (by with_reducible assumption) hz _))
    (first
      | (go_at_call 79; (with_reducible refine (JE _ (by with_reducible assumption)).mono ?_); rintro e w2 ⟨rfl, hb2⟩)
      | (go_at_call 32; (with_reducible refine (JY _ (by with_reducible assumption)).mono ?_); rintro e w2 ⟨rfl, hb2⟩)
      | (go_at_call 81; (with_reducible refine (JM _).mono ?_); rintro e w2 ⟨v2, rfl, ho2, hb2⟩)
      | (go_at_call 81; (with_reducible refine (JN _).mono ?_); rintro e w2 ⟨v2, rfl, ho3, hb2⟩)
      | (go_at_call 80; (with_reducible refine (implFormatServers _ _ _ _ k1 ho2).mono ?_); rintro e w2 ⟨rfl, hb2⟩)
      | (go_at_call 80; (with_reducible refine (implFormatServers _ _ _ _ k2 ho3).mono ?_); rintro e w2 ⟨rfl, hb2⟩))
  all_goals
    rename_i hk2
    have HK := Lib.hid hk2
    have JJ := Lib.hid (joinFour w2 (Lib.itoa x) (Lib.itoa y) (fmtS M) (fmtS N) (by omega) (by omega) (by omega) (by omega))
    clear hk2
    go_wp2_with fail
    refine JJ.out.mono ?_
    rintro e w9 ⟨rfl, hb9⟩
    go_wp2_with fail
    go_ret
    exact ⟨rfl, HB.out.trans ((HK.out.1.trans (hb9.mono (Nat.le_trans hz HK.out.1.size))).mono (Nat.le_succ _))⟩
set_option maxRecDepth 100000 in
theorem implFormatConfig (x y : Int) (b1 b2 : Nat) (v1 v2 : Value) (L1 L2 : List Int) (w : World) (h1 : L1.length ≤ 4194304) (h2 : L2.length ≤ 4194304) (o1 : OwnI b1 w v1 L1) (o2 : OwnI b2 w v2 L2) (hT : Tab w) :
    Calls Tryz.prog 12 #[.agg #[.int .i64 x, .int .i64 y, v1, v2]] w fun e w' => e = .returned (str (fmtC x y L1 L2)) ∧ Below w.heap.size w w' := by
  obtain ⟨W, hW⟩ : ∃ W, W = w.alloc (.cells #[.int .i64 x, .int .i64 y, v1, v2] 37) := ⟨_, rfl⟩
  have hB : Below w.heap.size w W := by rw [hW]; exact (Below.refl _ _).alloc (Nat.le_refl _) _
  have HC := Lib.hid (show BoxC W w.heap.size 37 #[.int .i64 x, .int .i64 y, v1, v2] by rw [hW]; exact BoxC.new _ _ _)
  have j1 := implGroupOfO x y b1 b2 v1 v2 L1 L2 W h1 h2 (o1.later hB) (o2.later hB)
  have HB := Lib.hid hB
  have HW := Lib.hid hW
  have HT := Lib.hid (fun W' (h : Below w.heap.size w W') => hT.below h)
  obtain ⟨y1, q1, rfl⟩ := o1.shape
  obtain ⟨y2, q2, rfl⟩ := o2.shape
  clear hB hW o1 o2 hT
  cases e1 : cfgOk x y L1 L2 with
  | false =>
    have HF := Lib.hid (show fmtC x y L1 L2 = [] by unfold fmtC; rw [e1]; rfl)
    rw [e1, gV_no e1] at j1
    have J1 := Lib.hid j1
    clear e1 j1
    go_enter Tryz.func12, Tryz.ntmps12
    go_wp2_with fail
    rw [← HW.out]
    have x0 := HC.out.c 0 rfl
    have x1 := HC.out.c 1 rfl
    have x2 := HC.out.c 2 rfl
    have x3 := HC.out.c 3 rfl
    go_wp2_with fail
    refine J1.out.mono ?_
    rintro e w1 ⟨rfl, hb⟩
    replace HB := Lib.hid (HB.out.trans (hb.mono HB.out.size))
    clear hb HW J1 HC x0 x1 x2 x3
    go_wp2_with fail
    go_ret
    exact ⟨by rw [HF.out]; rfl, HB.out.alloc HB.out.size _⟩
  | true =>
    have hc := cfg_of e1
    have hy := cfg_y hc
    have HF := Lib.hid (show fmtC x y L1 L2 = Lib.itoa x ++ ([32] ++ (Lib.itoa y ++ ([32] ++ (fmtS L1 ++ ([32] ++ fmtS L2))))) by unfold fmtC; rw [if_pos e1])
    have j2 := fun W' (h : Tab W') => implFormat x y (maskOf L1) (maskOf L2) W' hc.1 hy (mask_lt _) (mask_lt _) h
    rw [are_mask hc.2.1, are_mask hc.2.2.1] at j2
    have J2 := Lib.hid j2
    rw [e1, gV_yes e1] at j1
    generalize maskOf L1 = m1 at *
    generalize maskOf L2 = m2 at *
    have J1 := Lib.hid j1
    clear e1 j1 hc j2 hy
    go_enter Tryz.func12, Tryz.ntmps12
    go_wp2_with fail
    rw [← HW.out]
    have x0 := HC.out.c 0 rfl
    have x1 := HC.out.c 1 rfl
    have x2 := HC.out.c 2 rfl
    have x3 := HC.out.c 3 rfl
    go_wp2_with fail
    refine J1.out.mono ?_
    rintro e w1 ⟨rfl, hb⟩
    replace HB := Lib.hid (HB.out.trans (hb.mono HB.out.size))
    clear hb HW J1 HC x0 x1 x2 x3
    go_wp2_with fail
    have hbA := HB.out.alloc HB.out.size (.cells #[.int .i64 x, .int .i64 y, .int .u8 (m1 : Nat), .int .u8 (m2 : Nat)] 83)
    refine (J2.out _ (HT.out _ hbA)).mono ?_
    rintro e w2 ⟨rfl, hb⟩
    have HB2 := Lib.hid (hbA.trans (hb.mono hbA.size))
    clear hbA hb J2
    go_wp2_with fail
    go_ret
    exact ⟨by rw [HF.out]; rfl, HB2.out⟩
end Go.Proofs.YtgjebjoaemeeoaaGreatDoor.kit
