/-
  Chapter 8, plain lists: which configurations are valid; their members and roles; sets as bits.
-/
import Derived.Test.YtgjebjoaemeeoaaSetMath
import Derived.Test.YtgjebjoaemeeoaaS2Plain
namespace Go.Proofs.Ytgjebjoaemeeoaa.kit
set_option linter.unusedVariables false
set_option linter.unusedSimpArgs false

/-- a valid configuration -/
def CfgOk (x y : Int) (L1 L2 : List Int) : Prop := (1 ≤ x ∧ x ≤ 20) ∧ are L1 = true ∧ are L2 = true ∧ y ∈ L1 ∧ common L1 L2 = []
instance (x y : Int) (L1 L2 : List Int) : Decidable (CfgOk x y L1 L2) := inferInstanceAs (Decidable (_ ∧ _))
def inE (x : Int) : Bool := decide (1 ≤ x ∧ x ≤ 20)
def cfgOk (x y : Int) (L1 L2 : List Int) : Bool := decide (CfgOk x y L1 L2)
def memC (x y : Int) (L1 L2 : List Int) : List Int := if cfgOk x y L1 L2 = true then unite L1 L2 else []
def roleI (y : Int) (L1 L2 : List Int) (i : Int) : Int := if i = y then 1 else if i ∈ L1 then 2 else if i ∈ L2 then 3 else 0
def roleC (x y : Int) (L1 L2 : List Int) (i : Int) : Int := if cfgOk x y L1 L2 = true then roleI y L1 L2 i else 0
/-- a role's name -/
def roleN (r : Int) : List UInt8 :=
  if r = 0 then [110, 111, 110, 101] else if r = 1 then [112, 114, 105, 109, 97, 114, 121] else if r = 2 then [98, 97, 99, 107, 117, 112] else if r = 3 then [119, 105, 116, 110, 101, 115, 115] else []
theorem memC_len (x y : Int) (L1 L2 : List Int) (h1 : L1.length ≤ 1048576) (h2 : L2.length ≤ 1048576) : (memC x y L1 L2).length ≤ 4194304 := by
  unfold memC
  split
  · exact unite_len _ _ h1 h2
  · simp
theorem cfg_of {x y : Int} {L1 L2 : List Int} (h : cfgOk x y L1 L2 = true) : CfgOk x y L1 L2 := of_decide_eq_true h
theorem cfgOk_parts (x y : Int) (L1 L2 : List Int) : cfgOk x y L1 L2 = (inE x && (are L1 && (are L2 && (decide (y ∈ L1) && decide ((common L1 L2).length = 0))))) := by
  unfold cfgOk
  rw [Bool.eq_iff_iff, decide_eq_true_iff]
  unfold CfgOk inE
  simp only [decide_eq_true_eq, Bool.and_eq_true, List.length_eq_zero_iff]
theorem bits_of_are {l : List Int} (h : are l = true) : ∃ m, m < 32 ∧ l = bitsOf m := by
  have key : ∀ k, k ≤ l.length → ∃ m, m < 32 ∧ l.take k = bitsOf m := by
    intro k
    induction k with
    | zero => intro _; exact ⟨0, by omega, rfl⟩
    | succ k ih =>
      intro hk
      obtain ⟨m, hm, e⟩ := ih (by omega)
      have h1 := are_lt h k (by omega)
      have hok : okAt l k = true := (of_decide_eq_true h : ∀ i, i < l.length → okAt l i = true) k (by omega)
      have hin := of_decide_eq_true hok
      obtain ⟨id, hid⟩ := Int.eq_ofNat_of_zero_le hin.1
      have h5 : id < 5 := by omega
      by_cases h0 : m / 2 ^ id = 0
      · obtain ⟨b1, b2, b3⟩ := bits_add hm h5 h0
        exact ⟨_, b2, by rw [take_snocI l k (by omega), e, b1, hid]⟩
      · exfalso
        have b := bits_not hm h5 (Nat.pos_of_ne_zero h0)
        have hlast := last_take l k (by omega)
        rw [e] at hlast
        rw [hlast] at b
        split at b
        · omega
        · have := hin.2.2 (by omega); omega
  obtain ⟨m, hm, e⟩ := key l.length (Nat.le_refl _)
  exact ⟨m, hm, by rw [← e, List.take_length]⟩
theorem bits_and0 {m n : Nat} (hm : m < 32) (hn : n < 32) : (m &&& n = 0) ↔ ∀ i, i ∈ bitsOf m → i ∈ bitsOf n → False := by
  have h : ∀ m : Nat, m < 32 → ∀ n : Nat, n < 32 → ((m &&& n = 0) ↔ ∀ i ∈ bitsOf m, ¬ i ∈ bitsOf n) := by decide +kernel
  exact h m hm n hn
theorem bits_or {m n : Nat} (hm : m < 32) (hn : n < 32) : (m ||| n) < 32 ∧ ∀ i, i ∈ bitsOf (m ||| n) ↔ i ∈ bitsOf m ∨ i ∈ bitsOf n := by
  refine ⟨Nat.or_lt_two_pow (n := 5) hm hn, fun i => ?_⟩
  simp only [bits_mem, Nat.testBit_or, Bool.or_eq_true]
  exact ⟨fun ⟨k, h1, e, h2⟩ => h2.elim (fun h => .inl ⟨k, h1, e, h⟩) (fun h => .inr ⟨k, h1, e, h⟩), fun h => h.elim (fun ⟨k, h1, e, h2⟩ => ⟨k, h1, e, .inl h2⟩) (fun ⟨k, h1, e, h2⟩ => ⟨k, h1, e, .inr h2⟩)⟩
theorem bits_asc {m : Nat} (hm : m < 32) : Asc (bitsOf m) := by
  have h : ∀ m : Nat, m < 32 → (bitsOf m).Pairwise (· < ·) := by decide +kernel
  exact h m hm
theorem bits_unite {m n : Nat} (hm : m < 32) (hn : n < 32) : unite (bitsOf m) (bitsOf n) = bitsOf (m ||| n) :=
  asc_ext (unite_asc _ _) (bits_asc (bits_or hm hn).1) (fun x => by rw [unite_mem, (bits_or hm hn).2])
theorem bits_common {m n : Nat} (hm : m < 32) (hn : n < 32) : decide (common (bitsOf m) (bitsOf n) = []) = decide (m &&& n = 0) := by
  rw [decide_eq_decide, bits_and0 hm hn]
  constructor
  · intro h i h1 h2
    have : i ∈ common (bitsOf m) (bitsOf n) := (common_mem _ _ _).2 ⟨h1, h2⟩
    rw [h] at this
    cases this
  · intro h
    refine List.eq_nil_iff_forall_not_mem.2 (fun i hi => ?_)
    have := (common_mem _ _ _).1 hi
    exact h i this.1 this.2
theorem roleI_nz {y : Int} {L1 L2 : List Int} (hy : y ∈ L1) (i : Int) : roleI y L1 L2 i ≠ 0 ↔ i ∈ L1 ∨ i ∈ L2 := by
  unfold roleI
  by_cases h1 : i = y
  · rw [if_pos h1]; subst h1; simp [hy]
  · rw [if_neg h1]
    by_cases h2 : i ∈ L1
    · rw [if_pos h2]; simp [h2]
    · rw [if_neg h2]
      by_cases h3 : i ∈ L2
      · rw [if_pos h3]; simp [h3]
      · rw [if_neg h3]; simp [h2, h3]
theorem mem_role (x y : Int) (L1 L2 : List Int) (i : Int) : i ∈ memC x y L1 L2 ↔ roleC x y L1 L2 i ≠ 0 := by
  unfold memC roleC
  cases h : cfgOk x y L1 L2 with
  | true =>
    have hc := cfg_of h
    rw [if_pos rfl, if_pos rfl, unite_mem, roleI_nz hc.2.2.2.1]
  | false => simp
theorem role_prim {x y : Int} {L1 L2 : List Int} (h : cfgOk x y L1 L2 = true) : roleC x y L1 L2 y = 1 := by
  unfold roleC roleI
  rw [if_pos h, if_pos rfl]
theorem role_in (x y : Int) (L1 L2 : List Int) (i : Int) : 0 ≤ roleC x y L1 L2 i ∧ roleC x y L1 L2 i ≤ 3 := by
  unfold roleC roleI
  repeat' split
  all_goals omega
end Go.Proofs.Ytgjebjoaemeeoaa.kit
