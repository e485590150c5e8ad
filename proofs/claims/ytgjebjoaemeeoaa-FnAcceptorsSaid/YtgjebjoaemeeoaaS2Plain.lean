/-
  Chapter 2, lists of servers: what spec's and impl's AreServers, HasServer and EqualServers return, for every list.
-/
import Derived.Test.YtgjebjoaemeeoaaInts
import Derived.Test.YtgjebjoaemeeoaaShelf
namespace Go.Proofs.Ytgjebjoaemeeoaa.kit
open Go.ChangeShapes Go.WideShapes Go.ChangeAt Go.RowKit
set_option linter.unusedVariables false

theorem quiet_eq {P : Program} {f : FuncId} {args : Array Value} {w : World} {n : Nat} {v : Value}
    (h : Calls P f args (w.drewN n) fun e w' => e = .returned v ∧ w.drewN n = w') : Calls P f args (w.drewN n) fun e w'' => e = .returned v ∧ ∃ m, w'' = w.drewN m :=
  h.mono fun _ _ ⟨he, hm⟩ => ⟨he, n, hm.symm⟩
/-- the i-th number is a server above the one before it -/
def okAt (l : List Int) (i : Nat) : Bool := decide (0 ≤ l.getD i 0 ∧ l.getD i 0 ≤ 4 ∧ (0 < i → l.getD (i - 1) 0 < l.getD i 0))
def are (l : List Int) : Bool := decide (∀ i, i < l.length → okAt l i = true)
theorem are_true {l : List Int} (h : ∀ i, i < l.length → okAt l i = true) : are l = true := decide_eq_true h
theorem are_false {l : List Int} {i : Nat} (hi : i < l.length) (h : okAt l i = false) : are l = false := decide_eq_false fun hh => by rw [hh i hi] at h; cases h
set_option maxRecDepth 100000 in
theorem specAre_any (a : Option Addr) (c : Nat) (l : List Int) (w : World) (hl : l.length ≤ 4194304) (ha : At w a l) :
    Calls Try.prog 56 #[.slice a l.length c] w fun e w' => e = .returned (.bool (are l)) ∧ Drawn w w' := by
  have HA := Lib.hid ha
  clear ha
  go_enter Try.func56, Try.ntmps56
  go_wp2_with fail
  go_loopw [3] (fun i wr => ∃ k : Nat, k ≤ l.length ∧ i = .int .i64 k ∧ Hid (∀ j, j < k → okAt l j = true) ∧ Hid (Drawn w wr)) (fun i _ => l.length - (intOf i).toNat)
  case atStart => exact ⟨0, Nat.zero_le _, rfl, Lib.hid (fun j h => by omega), Lib.hid (Drawn.refl _)⟩
  case round =>
    obtain ⟨k, hk, rfl, HE, HQ⟩ := hrel
    by_cases hlt : k < l.length
    · obtain ⟨x, rfl, _, hc1⟩ := HA.out k hlt
      have hc1 := HQ.out.cell hc1
      by_cases hin : 0 ≤ l.getD k 0 ∧ l.getD k 0 ≤ 4
      · by_cases h0 : 0 < k
        · obtain ⟨x', hx', _, hc2⟩ := HA.out (k - 1) (by omega)
          have hc2 := HQ.out.cell hc2
          obtain rfl : x = x' := by cases hx'; rfl
          have g2 : ((k : Int) - 1).toNat = k - 1 := by omega
          have g3 : IntKind.i64.wrap ((k : Int) - 1) = (k : Int) - 1 := IntWalk.i64_in _ (by omega)
          have g4 : (0 : Int) ≤ (k : Int) - 1 := by omega
          have g5 : (1 : Int) ≤ (k : Int) := by omega
          have g6 : (k : Int) - 1 < (l.length : Int) := by omega
          have g7 : (0 : Int) < (k : Int) := by omega
          by_cases hz : l.getD (k - 1) 0 < l.getD k 0
          · have HE2 := Lib.hid (show ∀ j, j < k + 1 → okAt l j = true from fun j hj => by
              by_cases e : j = k
              · subst e; exact decide_eq_true ⟨hin.1, hin.2, fun _ => hz⟩
              · exact HE.out j (by omega))
            generalize l.getD k 0 = z at *
            generalize l.getD (k - 1) 0 = y at *
            have C1 := fun W => Lib.hid (in_true z 0 4 W hin.1 hin.2)
            have g1 : decide (y ≥ z) = false := by simp; omega
            clear hz hin hx'
            go_wp2_with fail
            go_quiet ((go_at_call 35; exact quiet_eq (C1 _).out))
            clear g1 g2 g3 g4 g5 g6 g7
            go_wp2_with fail
            go_roundw
            case rel => exact ⟨k + 1, by omega, by go_num, HE2, Lib.hid (HQ.out.more _)⟩
            case measure => simp [intOf]; omega
          · have HF := Lib.hid (show are l = false from are_false hlt (decide_eq_false (fun h => hz (h.2.2 h0))))
            generalize l.getD k 0 = z at *
            generalize l.getD (k - 1) 0 = y at *
            have C1 := fun W => Lib.hid (in_true z 0 4 W hin.1 hin.2)
            have g1 : decide (y ≥ z) = true := by simp; omega
            clear hz hin hx'
            go_wp2_with fail
            go_quiet ((go_at_call 35; exact quiet_eq (C1 _).out))
            clear g1 g2 g3 g4 g5 g6 g7
            go_wp2_with fail
            go_ret
            exact ⟨by rw [HF.out]; rfl, HQ.out.more _⟩
        · have HE2 := Lib.hid (show ∀ j, j < k + 1 → okAt l j = true from fun j hj => by
              by_cases e : j = k
              · subst e; exact decide_eq_true ⟨hin.1, hin.2, fun h => absurd h h0⟩
              · exact HE.out j (by omega))
          generalize l.getD k 0 = z at *
          have C1 := fun W => Lib.hid (in_true z 0 4 W hin.1 hin.2)
          have g1 : decide ((k : Int) > 0) = false := by simp; omega
          clear hin
          go_wp2_with fail
          go_quiet ((go_at_call 35; exact quiet_eq (C1 _).out))
          clear g1
          go_wp2_with fail
          go_roundw
          case rel => exact ⟨k + 1, by omega, by go_num, HE2, Lib.hid (HQ.out.more _)⟩
          case measure => simp [intOf]; omega
      · have HF := Lib.hid (show are l = false from are_false hlt (decide_eq_false (fun h => hin ⟨h.1, h.2.1⟩)))
        generalize l.getD k 0 = z at *
        have C1 := fun W => Lib.hid (in_false z 0 4 W (by omega))
        clear hin
        go_wp2_with fail
        go_quiet ((go_at_call 35; exact quiet_eq (C1 _).out))
        go_wp2_with fail
        go_ret
        exact ⟨by rw [HF.out]; rfl, HQ.out.more _⟩
    · have HF := Lib.hid (show are l = true from are_true (fun i hi => HE.out i (by omega)))
      go_wp2_with fail
      go_ret
      exact ⟨by rw [HF.out]; rfl, HQ.out⟩
theorem specAreServers (b : Nat) (v : Value) (l : List Int) (w : World) (h : l.length ≤ 4194304) (o : OwnI b w v l) :
    Calls Try.prog 56 #[v] w fun e w' => e = .returned (.bool (are l)) ∧ Below w.heap.size w w' := by
  obtain ⟨a, c, rfl, _, _, at1, _⟩ := o.form
  exact (specAre_any a c l w h at1).mono fun e w' ⟨he, hd⟩ => ⟨he, hd.below _⟩
theorem implIsServer (id : Int) (w : World) : Calls Try.prog 91 #[.int .i64 id] w fun e w' => e = .returned (.bool (decide (0 ≤ id ∧ id ≤ 4))) ∧ w = w' := by
  by_cases h0 : 0 ≤ id
  · by_cases h1 : id ≤ 4
    · have HF := Lib.hid (show decide (0 ≤ id ∧ id ≤ 4) = true from decide_eq_true ⟨h0, h1⟩)
      have g1 : decide (id < 5) = true := decide_eq_true (by omega)
      go_enter Try.func91, Try.ntmps91
      go_wp2_with fail
      go_ret
      exact ⟨by rw [HF.out]; rfl, rfl⟩
    · have HF := Lib.hid (show decide (0 ≤ id ∧ id ≤ 4) = false from decide_eq_false (fun h => h1 h.2))
      have g1 : decide (id < 5) = false := decide_eq_false (by omega)
      clear h1
      go_enter Try.func91, Try.ntmps91
      go_wp2_with fail
      go_ret
      exact ⟨by rw [HF.out]; rfl, rfl⟩
  · have HF := Lib.hid (show decide (0 ≤ id ∧ id ≤ 4) = false from decide_eq_false (fun h => h0 h.1))
    have g0 : decide (0 ≤ id) = false := decide_eq_false h0
    clear h0
    go_enter Try.func91, Try.ntmps91
    go_wp2_with fail
    go_ret
    exact ⟨by rw [HF.out]; rfl, rfl⟩
theorem isServer_yes {id : Int} (h : 0 ≤ id ∧ id ≤ 4) (w : World) : Calls Try.prog 91 #[.int .i64 id] w fun e w' => e = .returned (.bool true) ∧ w = w' := by
  have := implIsServer id w; rw [decide_eq_true h] at this; exact this
theorem isServer_no {id : Int} (h : ¬ (0 ≤ id ∧ id ≤ 4)) (w : World) : Calls Try.prog 91 #[.int .i64 id] w fun e w' => e = .returned (.bool false) ∧ w = w' := by
  have := implIsServer id w; rw [decide_eq_false h] at this; exact this
set_option maxRecDepth 100000 in
theorem add_out (p : Addr) (id : Int) (m : Nat) (w : World) (h : id < 0 ∨ 5 ≤ id) :
    Calls Try.prog 81 #[.pointer (some p), .int .i64 id] w fun e w' => e = .returned (.bool false) ∧ w = w' := by
  have J := Lib.hid (isServer_no (id := id) (by omega) w)
  clear h
  go_enter Try.func81, Try.ntmps81
  go_wp2_with (go_at_call 91; refine (J.out).mono ?_; rintro e w1 ⟨rfl, rfl⟩)
  go_ret
  exact ⟨rfl, rfl⟩
theorem shr_zero {m id : Nat} (h : m / 2 ^ id = 0) : (((m : Int) / 2 ^ id) != 0) = false := by
  have e : (m : Int) / 2 ^ id = ((m / 2 ^ id : Nat) : Int) := by rw [Int.natCast_ediv, Int.natCast_pow]; rfl
  rw [e, h]; rfl
theorem shr_pos {m id : Nat} (h : 0 < m / 2 ^ id) : (((m : Int) / 2 ^ id) != 0) = true := by
  have e : (m : Int) / 2 ^ id = ((m / 2 ^ id : Nat) : Int) := by rw [Int.natCast_ediv, Int.natCast_pow]; rfl
  rw [e, bne_iff_ne]; omega
theorem or_bit {m id : Nat} (hm : m < 32) (h : id < 5) : bits .or .u8 (m : Int) ((2 : Int) ^ id % 256) = ((m ||| 2 ^ id : Nat) : Int) := by
  have h : ∀ m : Nat, m < 32 → ∀ id : Nat, id < 5 → bits .or .u8 (m : Int) ((2 : Int) ^ id % 256) = ((m ||| 2 ^ id : Nat) : Int) := by decide +kernel
  exact h m hm id (by assumption)
/-- the numbers of the bits of m -/
def bitsOf (m : Nat) : List Int := ((List.range 5).filter fun i => m.testBit i).map fun i => ((i : Nat) : Int)
theorem bits_add {m id : Nat} (hm : m < 32) (h : id < 5) (h0 : m / 2 ^ id = 0) : bitsOf (m ||| 2 ^ id) = bitsOf m ++ [(id : Int)] ∧ (m ||| 2 ^ id) < 32 ∧ (bitsOf m).getLastD (-1) < id := by
  have h : ∀ m : Nat, m < 32 → ∀ id : Nat, id < 5 → m / 2 ^ id = 0 → bitsOf (m ||| 2 ^ id) = bitsOf m ++ [(id : Int)] ∧ (m ||| 2 ^ id) < 32 ∧ (bitsOf m).getLastD (-1) < id := by decide +kernel
  exact h m hm id (by assumption) h0
theorem bits_not {m id : Nat} (hm : m < 32) (h : id < 5) (h0 : 0 < m / 2 ^ id) : (id : Int) ≤ (bitsOf m).getLastD (-1) := by
  have h : ∀ m : Nat, m < 32 → ∀ id : Nat, id < 5 → 0 < m / 2 ^ id → (id : Int) ≤ (bitsOf m).getLastD (-1) := by decide +kernel
  exact h m hm id (by assumption) h0
theorem bits_are {m : Nat} (hm : m < 32) : are (bitsOf m) = true := by
  have h : ∀ m : Nat, m < 32 → are (bitsOf m) = true := by decide +kernel
  exact h m hm
theorem one_row (w : World) (v : Value) (t : TypeId) : (w.alloc (.cells #[v] t)).rowIs w.heap.size t 1 (fun _ => v) := by
  have h := World.rowIs_alloc w #[v] t (fun _ => v) (by
    intro i hi
    have : i = 0 := by simp at hi; omega
    subst this
    rfl)
  exact h
theorem one_eq {u v : Value} : ∀ i, i < 1 → (if i = 0 then v else u) = v := by
  intro i hi
  rw [if_pos (by omega)]
theorem last_take (l : List Int) (k : Nat) (hk : k ≤ l.length) : (l.take k).getLastD (-1) = if k = 0 then -1 else l.getD (k - 1) 0 := by
  by_cases h0 : k = 0
  · subst h0; rfl
  · have hne : l.take k ≠ [] := by intro e; have := congrArg List.length e; rw [List.length_take, Nat.min_eq_left hk] at this; exact h0 this
    rw [if_neg h0, List.getLastD_eq_getLast?, List.getLast?_eq_getElem?]
    simp only [List.length_take, Nat.min_eq_left hk]
    rw [List.getElem?_take_of_lt (show k - 1 < k by omega)]
    simp [List.getD, show k - 1 < l.length by omega]
theorem are_lt {l : List Int} (h : are l = true) : ∀ i, i < l.length → (i : Int) ≤ l.getD i 0 ∧ l.getD i 0 ≤ 4 := by
  have h' : ∀ i, i < l.length → okAt l i = true := of_decide_eq_true h
  intro i
  induction i with
  | zero => intro hi; have := of_decide_eq_true (h' 0 hi); exact ⟨this.1, this.2.1⟩
  | succ i ih => intro hi; have a := ih (by omega); have b := of_decide_eq_true (h' (i + 1) hi); have c := b.2.2 (by omega); rw [show i + 1 - 1 = i by omega] at c; exact ⟨by omega, b.2.1⟩
theorem are_len {l : List Int} (h : are l = true) : l.length ≤ 5 := by
  by_cases h6 : 5 < l.length
  · have := are_lt h 5 h6; omega
  · omega
set_option maxRecDepth 100000 in
theorem add_not (p : Addr) (id m : Nat) (w : World) (h : id < 5) (hc : w.cell? p = some (.int .u8 m)) (hm : 0 < m / 2 ^ id) :
    Calls Try.prog 81 #[.pointer (some p), .int .i64 id] w fun e w' => e = .returned (.bool false) ∧ w = w' := by
  have J := Lib.hid (isServer_yes (id := (id : Int)) (by omega) w)
  have g0 : decide ((id : Int) < 0) = false := by simp
  have g2 := shr_pos hm
  clear hm
  go_enter Try.func81, Try.ntmps81
  go_wp2_with (go_at_call 91; refine (J.out).mono ?_; rintro e w1 ⟨rfl, rfl⟩)
  go_ret
  exact ⟨rfl, rfl⟩
set_option maxRecDepth 100000 in
theorem add_yes (p : Addr) (id m : Nat) (w : World) (h : id < 5) (hc : w.cell? p = some (.int .u8 m)) (hf : w.frozen? p = false) (hm : m / 2 ^ id = 0) (hm2 : m < 32) :
    Calls Try.prog 81 #[.pointer (some p), .int .i64 id] w fun e w' => e = .returned (.bool true) ∧ w' = (w.setCell p (.int .u8 ((m ||| 2 ^ id : Nat) : Int))).drew := by
  have J := Lib.hid (isServer_yes (id := (id : Int)) (by omega) w)
  have g0 : decide ((id : Int) < 0) = false := by simp
  have g2 := shr_zero hm
  clear hm
  go_enter Try.func81, Try.ntmps81
  go_wp2_with (go_at_call 91; refine (J.out).mono ?_; rintro e w1 ⟨rfl, rfl⟩)
  go_region
  go_wp2_with fail
  go_ret
  exact ⟨rfl, by rw [or_bit hm2 h]⟩
/-- the set of bits of a set -/
def maskOf (l : List Int) : Nat := ((List.range 32).find? fun m => decide (bitsOf m = l)).getD 0
theorem mask_lt (l : List Int) : maskOf l < 32 := by
  unfold maskOf
  cases h : (List.range 32).find? fun m => decide (bitsOf m = l) with
  | none => simp
  | some m =>
    have := List.mem_of_find?_eq_some h
    simpa using this
theorem bits_inj {m n : Nat} (hm : m < 32) (hn : n < 32) (h : bitsOf m = bitsOf n) : m = n := by
  have key : ∀ m : Nat, m < 32 → ∀ n : Nat, n < 32 → bitsOf m = bitsOf n → m = n := by decide +kernel
  exact key m hm n hn h
theorem mask_bits {m : Nat} (hm : m < 32) : maskOf (bitsOf m) = m := by
  unfold maskOf
  cases h : (List.range 32).find? fun k => decide (bitsOf k = bitsOf m) with
  | none =>
    have := List.find?_eq_none.1 h m (by simpa using hm)
    simp at this
  | some k =>
    have h1 := List.mem_of_find?_eq_some h
    have h2 := List.find?_some h
    simp only [decide_eq_true_eq] at h2
    have h3 : k < 32 := by simpa using h1
    exact bits_inj h3 hm h2
theorem mask_not {l : List Int} (h : are l = false) : maskOf l = 0 := by
  unfold maskOf
  cases hf : (List.range 32).find? fun k => decide (bitsOf k = l) with
  | none => rfl
  | some k =>
    have h1 := List.mem_of_find?_eq_some hf
    have h2 := List.find?_some hf
    simp only [decide_eq_true_eq] at h2
    have h3 : k < 32 := by simpa using h1
    rw [← h2, bits_are h3] at h
    cases h
theorem bit_and {m k : Nat} (hm : m < 32) (h : k < 5) : bits .and .u8 ((m : Int) / 2 ^ k) 1 = if m.testBit k = true then 1 else 0 := by
  have h : ∀ m : Nat, m < 32 → ∀ k : Nat, k < 5 → bits .and .u8 ((m : Int) / 2 ^ k) 1 = if m.testBit k = true then 1 else 0 := by decide +kernel
  exact h m hm k (by assumption)
theorem shr_big {m id : Nat} (hm : m < 32) (h : 8 < id) : Op.shift .shr .u8 (m : Int) .i64 (id : Int) = pure (.int .u8 0) := by
  have e : min ((id : Int)).toNat (IntKind.bits .u8) = 8 := by
    rw [Int.toNat_natCast]
    show min id 8 = 8
    omega
  have h : ∀ m : Nat, m < 32 → (m : Int).fdiv (2 ^ 8) = 0 := by decide +kernel
  unfold Op.shift
  rw [if_neg (by omega), e]
  show (pure (.int .u8 ((m : Int).fdiv (2 ^ 8))) : Sem Value) = _
  rw [h m hm]
theorem and_big {m id : Nat} (hm : m < 32) (h1 : 5 ≤ id) (h2 : id ≤ 8) : bits .and .u8 ((m : Int) / 2 ^ id) 1 = 0 := by
  have h : ∀ m : Nat, m < 32 → ∀ id : Nat, id < 9 → 5 ≤ id → bits .and .u8 ((m : Int) / 2 ^ id) 1 = 0 := by decide +kernel
  exact h m hm id (by omega) h1
theorem bits_mem {m : Nat} {i : Int} : i ∈ bitsOf m ↔ ∃ k : Nat, k < 5 ∧ i = (k : Int) ∧ m.testBit k = true := by
  unfold bitsOf
  simp only [List.mem_map, List.mem_filter, List.mem_range]
  exact ⟨fun ⟨k, ⟨h1, h2⟩, e⟩ => ⟨k, h1, e.symm, h2⟩, fun ⟨k, h1, e, h2⟩ => ⟨k, ⟨h1, h2⟩, e.symm⟩⟩
theorem bits_mem' {m k : Nat} (h : k < 5) : decide ((k : Int) ∈ bitsOf m) = m.testBit k := by
  rw [Bool.eq_iff_iff, decide_eq_true_iff, bits_mem]
  exact ⟨fun ⟨j, _, e, h2⟩ => by have : k = j := by omega
                                 rw [this]; exact h2, fun h2 => ⟨k, h, rfl, h2⟩⟩
set_option maxRecDepth 100000 in
theorem implHasBit (m : Nat) (i : Int) (w : World) (hm : m < 32) :
    Calls Try.prog 83 #[.int .u8 m, .int .i64 i] w fun e w' => e = .returned (.bool (decide (i ∈ bitsOf m))) ∧ w = w' := by
  by_cases h0 : 0 ≤ i
  · obtain ⟨id, rfl⟩ := Int.eq_ofNat_of_zero_le h0
    have g0 : decide ((0 : Int) ≤ (id : Int)) = true := decide_eq_true h0
    by_cases h5 : id < 5
    · have HF := Lib.hid (bits_mem' (m := m) h5)
      have e1 := bit_and hm h5
      cases ht : m.testBit id with
      | true =>
        rw [ht] at e1 HF
        rw [if_pos rfl] at e1
        clear ht h0
        go_enter Try.func83, Try.ntmps83
        go_wp2_with fail
        go_ret
        exact ⟨by rw [HF.out]; rfl, rfl⟩
      | false =>
        rw [ht] at e1 HF
        rw [if_neg (by simp)] at e1
        clear ht h0
        go_enter Try.func83, Try.ntmps83
        go_wp2_with fail
        go_ret
        exact ⟨by rw [HF.out]; rfl, rfl⟩
    · have HF := Lib.hid (show decide ((id : Int) ∈ bitsOf m) = false from decide_eq_false (fun h => by obtain ⟨k, h1, e, _⟩ := bits_mem.1 h; omega))
      by_cases h8 : id ≤ 8
      · have e1 := and_big hm (by omega) h8
        clear h0
        go_enter Try.func83, Try.ntmps83
        go_wp2_with fail
        go_ret
        exact ⟨by rw [HF.out]; rfl, rfl⟩
      · have e1 := shr_big hm (show 8 < id by omega)
        have e2 : bits .and .u8 0 1 = 0 := by decide
        clear h0
        go_enter Try.func83, Try.ntmps83
        go_wp2_with fail
        go_ret
        exact ⟨by rw [HF.out]; rfl, rfl⟩
  · have HF := Lib.hid (show decide (i ∈ bitsOf m) = false from decide_eq_false (fun h => by obtain ⟨k, h1, e, _⟩ := bits_mem.1 h; omega))
    have g0 : decide ((0 : Int) ≤ i) = false := decide_eq_false h0
    clear h0
    go_enter Try.func83, Try.ntmps83
    go_wp2_with fail
    go_ret
    exact ⟨by rw [HF.out]; rfl, rfl⟩
set_option maxRecDepth 100000 in
theorem implSetOf (a : Option Addr) (c : Nat) (l : List Int) (w : World) (hl : l.length ≤ 4194304) (ha : At w a l) :
    Calls Try.prog 70 #[.slice a l.length c] w fun e w' => e = .returned (.tuple #[.int .u8 (maskOf l), .bool (are l)]) ∧ Below w.heap.size w w' := by
  have HA := Lib.hid ha
  clear ha
  go_enter Try.func70, Try.ntmps70
  go_wp2_with fail
  go_loopw [9] (fun i wr => ∃ k m : Nat, k ≤ l.length ∧ i = .int .i64 k ∧ m < 32 ∧ Hid (l.take k = bitsOf m) ∧ wr.rowIs w.heap.size 87 1 (fun _ => .int .u8 m) ∧ Below w.heap.size w wr) (fun i _ => l.length - (intOf i).toNat)
  case atStart => exact ⟨0, 0, Nat.zero_le _, rfl, by omega, Lib.hid (by rfl), one_row w _ _, (Below.refl _ _).alloc (Nat.le_refl _) _⟩
  case round =>
    obtain ⟨k, m, hk, rfl, hm, HE, hrow, hb⟩ := hrel
    have hcell := hrow.cell (i := 0) (by omega)
    have hfr := hrow.frozen 0
    by_cases hlt : k < l.length
    · obtain ⟨x, rfl, hx, hc⟩ := HA.out k hlt
      have hc' : wr.cell? (x.add k) = some (.int .i64 (l.getD k 0)) := (hb.cell (p := x.add k) (by unfold Addr.add; split <;> exact hx)).trans hc
      have hlast := last_take l k hk
      rw [HE.out] at hlast
      have HR := Lib.hid hrow
      clear hrow hc
      by_cases hin : 0 ≤ l.getD k 0 ∧ l.getD k 0 < 5
      · obtain ⟨id, hid⟩ := Int.eq_ofNat_of_zero_le hin.1
        have h5 : id < 5 := by omega
        by_cases h0 : m / 2 ^ id = 0
        · have C1 := Lib.hid (add_yes ⟨w.heap.size, 0, none⟩ id m wr h5 hcell hfr h0 hm)
          obtain ⟨b1, b2, b3⟩ := bits_add hm h5 h0
          have HE2 := Lib.hid (show l.take (k + 1) = bitsOf (m ||| 2 ^ id) by rw [take_snocI l k hlt, HE.out, b1, hid])
          rw [hid] at hc'
          clear b1 b3 h0 hlast hid hin hcell hfr
          go_wp2_with (go_at_call 81; refine (C1.out).mono ?_; rintro e w1 ⟨rfl, rfl⟩)
          go_roundw
          case rel => exact ⟨k + 1, m ||| 2 ^ id, by omega, by go_num, b2, HE2, ((HR.out.set 0 _).drew).congr one_eq, (hb.setCell (Nat.le_refl _) _).drew⟩
          case measure => simp [intOf]; omega
        · have C1 := Lib.hid (add_not ⟨w.heap.size, 0, none⟩ id m wr h5 hcell (Nat.pos_of_ne_zero h0))
          have HF := Lib.hid (show are l = false from are_false hlt (decide_eq_false (fun h => by
            have b := bits_not hm h5 (Nat.pos_of_ne_zero h0)
            rw [hlast] at b
            split at b
            · omega
            · have := h.2.2 (by omega); omega)))
          rw [hid] at hc'
          clear h0 hlast hid hin hcell hfr
          go_wp2_with (go_at_call 81; refine (C1.out).mono ?_; rintro e w1 ⟨rfl, rfl⟩)
          go_ret2
          exact ⟨by rw [HF.out, mask_not HF.out]; rfl, hb⟩
      · have C1 := Lib.hid (add_out ⟨w.heap.size, 0, none⟩ (l.getD k 0) m wr (by omega))
        have HF := Lib.hid (show are l = false from are_false hlt (decide_eq_false (fun h => by omega)))
        generalize l.getD k 0 = z at *
        clear hlast hin hcell hfr
        go_wp2_with (go_at_call 81; refine (C1.out).mono ?_; rintro e w1 ⟨rfl, rfl⟩)
        go_ret2
        exact ⟨by rw [HF.out, mask_not HF.out]; rfl, hb⟩
    · have HF := Lib.hid (show are l = true ∧ maskOf l = m by
        have h := HE.out
        rw [List.take_of_length_le (by omega)] at h
        rw [h]
        exact ⟨bits_are hm, mask_bits hm⟩)
      clear hrow
      go_wp2_with fail
      go_ret2
      exact ⟨by rw [HF.out.1, HF.out.2]; rfl, hb⟩
set_option maxRecDepth 100000 in
theorem specHas_any (a : Option Addr) (c : Nat) (l : List Int) (x : Int) (w : World) (hl : l.length ≤ 4194304) (ha : At w a l) :
    Calls Try.prog 57 #[.slice a l.length c, .int .i64 x] w fun e w' => e = .returned (.bool (decide (x ∈ l))) ∧ w = w' := by
  have HA := Lib.hid ha
  clear ha
  go_enter Try.func57, Try.ntmps57
  go_wp2_with fail
  go_loop [5] (fun i => ∃ k : Nat, k ≤ l.length ∧ i = .int .i64 k ∧ Hid (x ∉ l.take k)) (fun i => l.length - (intOf i).toNat)
  case atStart => exact ⟨0, Nat.zero_le _, rfl, Lib.hid (by simp)⟩
  case round =>
    obtain ⟨k, hk, rfl, HE⟩ := hrel
    by_cases hlt : k < l.length
    · obtain ⟨p, rfl, _, hc⟩ := HA.out k hlt
      have hget : l.getD k 0 = l[k] := by simp [List.getD, hlt]
      by_cases hz : l.getD k 0 = x
      · have HF := Lib.hid (show x ∈ l by rw [← hz, hget]; exact List.getElem_mem hlt)
        rw [hz] at hc
        clear hz hget
        go_wp2_with fail
        go_ret
        exact ⟨by rw [decide_eq_true HF.out]; rfl, rfl⟩
      · have HF := Lib.hid (show x ∉ l.take (k + 1) from by
          rw [take_snocI l k hlt, List.mem_append]
          intro h
          rcases h with h | h
          · exact HE.out h
          · exact hz (List.mem_singleton.1 h).symm)
        generalize l.getD k 0 = z at *
        have g : (z == x) = false := by rw [beq_eq_false_iff_ne]; exact hz
        clear hz hget
        go_wp2_with fail
        go_round
        case rel => exact ⟨k + 1, by omega, by go_num, HF⟩
        case measure => simp [intOf]; omega
    · have HF := Lib.hid (show x ∉ l by have h := HE.out; rw [List.take_of_length_le (by omega)] at h; exact h)
      go_wp2_with fail
      go_ret
      exact ⟨by rw [decide_eq_false HF.out]; rfl, rfl⟩
theorem specHasServer (b : Nat) (v : Value) (l : List Int) (x : Int) (w : World) (h : l.length ≤ 4194304) (o : OwnI b w v l) :
    Calls Try.prog 57 #[v, .int .i64 x] w fun e w' => e = .returned (.bool (decide (x ∈ l))) ∧ Below w.heap.size w w' := by
  obtain ⟨a, c, rfl, _, _, at1, _⟩ := o.form
  exact (specHas_any a c l x w h at1).mono fun e w' ⟨he, hd⟩ => ⟨he, hd ▸ Below.refl _ _⟩
theorem OwnI.cells {base : Nat} {w : World} {l : List Int} {g c : Nat} (h : OwnI base w (.slice (some ⟨g, 0, none⟩) l.length c) l) : ∀ j, j < l.length → w.cell? ⟨g, 0 + j, none⟩ = some (.int .i64 (l.getD j 0)) := fun j hj => by
  rw [Nat.zero_add, h.row.cellAt j (by omega), List.getElem?_map, List.getElem?_eq_getElem hj]
  simp [List.getD, hj]
set_option maxRecDepth 100000 in
theorem implEq_any (base1 base2 : Nat) (v1 v2 : Value) (l1 l2 : List Int) (w : World) (h1 : l1.length ≤ 4194304) (h2 : l2.length ≤ 4194304) (hown1 : OwnI base1 w v1 l1) (hown2 : OwnI base2 w v2 l2) :
    Calls Try.prog 40 #[v1, v2] w fun e w' => e = .returned (.bool (decide (l1 = l2))) ∧ Drawn w w' := by
  have key : Calls Try.prog 59 #[v1, v2] w fun e w' => e = .returned (.bool (decide (l1 = l2))) ∧ Drawn w w' := by
    by_cases h01 : 0 < l1.length
    · obtain ⟨g, c, rfl, hc1, hc2, _, _⟩ := hown1.there h01
      by_cases h02 : 0 < l2.length
      · obtain ⟨g2, c2, rfl, _, _, _, _⟩ := hown2.there h02
        refine (Try.slices_Equal_int g 0 l1.length c g2 0 l2.length c2 l1 l2 w (Nat.le_refl _) (Nat.le_refl _) (by omega) (by omega) hown1.cells hown2.cells).mono ?_
        rintro e w1 ⟨rfl, q, rfl⟩
        refine ⟨?_, q, rfl⟩
        rw [List.take_length, List.take_length]
        congr 2
        rw [Bool.eq_iff_iff]; simp
      · obtain rfl : l2 = [] := List.eq_nil_of_length_eq_zero (by omega)
        obtain ⟨a2, c2, rfl, _⟩ := hown2.form
        refine (Try.slices_Equal_int_lens _ a2 l1.length c 0 c2 w (by omega)).mono ?_
        rintro e w1 ⟨rfl, rfl⟩
        exact ⟨by rw [decide_eq_false]; intro e; rw [e] at h01; simp at h01, Drawn.refl _⟩
    · obtain rfl : l1 = [] := List.eq_nil_of_length_eq_zero (by omega)
      obtain ⟨a1, c1, rfl, _⟩ := hown1.form
      obtain ⟨a2, c2, rfl, _⟩ := hown2.form
      refine (Try.slices_Equal_int_empty a1 a2 c1 l2.length c2 w (by omega)).mono ?_
      rintro e w1 ⟨rfl, rfl⟩
      refine ⟨?_, Drawn.refl _⟩
      congr 2
      rw [decide_eq_decide, List.length_eq_zero_iff]
      exact ⟨fun h => h.symm, fun h => h.symm⟩
  have C1 := Lib.hid key
  clear key
  generalize decide (l1 = l2) = b at *
  go_enter Try.func40, Try.ntmps40
  go_wp2_with (refine (C1.out).mono ?_; rintro e w1 ⟨rfl, hd⟩)
  go_ret
  exact ⟨rfl, hd⟩
theorem implEqualServers (b1 : Nat) (v1 : Value) (l1 : List Int) (b2 : Nat) (v2 : Value) (l2 : List Int) (w : World) (h1 : l1.length ≤ 4194304) (o1 : OwnI b1 w v1 l1) (h2 : l2.length ≤ 4194304) (o2 : OwnI b2 w v2 l2) :
    Calls Try.prog 40 #[v1, v2] w fun e w' => e = .returned (.bool (decide (l1 = l2))) ∧ Below w.heap.size w w' :=
  (implEq_any b1 b2 v1 v2 l1 l2 w h1 h2 o1 o2).mono fun e w' ⟨he, hd⟩ => ⟨he, hd.below _⟩
end Go.Proofs.Ytgjebjoaemeeoaa.kit
