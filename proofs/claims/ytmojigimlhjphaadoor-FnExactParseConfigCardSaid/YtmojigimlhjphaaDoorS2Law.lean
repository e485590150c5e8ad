/-
  Chapter 2, plain lists: a set is read back from its format; how the sizes of union, intersection and difference go together.
-/
import Derived.Test.YtmojigimlhjphaaDoorS2Num
import Derived.Test.YtmojigimlhjphaaDoorSetMath2
namespace Go.Proofs.YtmojigimlhjphaaDoor.kit
set_option linter.unusedVariables false
set_option linter.unusedSimpArgs false

theorem are_asc {l : List Int} (h : are l = true) : Asc l := by
  have h' : ∀ i, i < l.length → okAt l i = true := of_decide_eq_true h
  have step : ∀ i, i + 1 < l.length → l.getD i 0 < l.getD (i + 1) 0 := fun i hi => by
    have := h' (i + 1) hi
    unfold okAt at this
    exact (of_decide_eq_true this).2.2 (by omega)
  have far : ∀ d i, i + d + 1 < l.length → l.getD i 0 < l.getD (i + d + 1) 0 := by
    intro d
    induction d with
    | zero => intro i hi; exact step i hi
    | succ d ih =>
      intro i hi
      have h1 := ih i (by omega)
      have h2 := step (i + d + 1) (by omega)
      have e : i + (d + 1) + 1 = i + d + 1 + 1 := by omega
      rw [e]; omega
  refine List.pairwise_iff_getElem.2 (fun i j hi hj hij => ?_)
  have := far (j - i - 1) i (by omega)
  rw [show i + (j - i - 1) + 1 = j by omega] at this
  simpa [List.getD, hi, hj] using this
theorem are_mem {l : List Int} (h : are l = true) : ∀ x ∈ l, 0 ≤ x ∧ x ≤ 4 := by
  intro x hx
  obtain ⟨i, hi, rfl⟩ := List.mem_iff_getElem.1 hx
  have := are_lt h i hi
  simp only [List.getD, List.getElem?_eq_getElem hi, Option.getD_some] at this
  omega
theorem are_of {l : List Int} (h : Asc l) (hm : ∀ x ∈ l, 0 ≤ x ∧ x ≤ 4) : are l = true := by
  refine are_true (fun i hi => decide_eq_true ?_)
  have e : l.getD i 0 = l[i] := by simp [List.getD, hi]
  rw [e]
  have h1 := hm _ (List.getElem_mem hi)
  refine ⟨h1.1, h1.2, fun h0 => ?_⟩
  have e2 : l.getD (i - 1) 0 = l[i - 1] := by simp [List.getD, show i - 1 < l.length by omega]
  rw [e2]
  exact List.pairwise_iff_getElem.1 h (i - 1) i (by omega) hi (by omega)
theorem asc_nodup {l : List Int} (h : Asc l) : l.Nodup := by
  unfold Asc at h
  exact h.imp (fun h => by omega)
theorem perm_len {a b : List Int} (ha : a.Nodup) (hb : b.Nodup) (h : ∀ x, x ∈ a ↔ x ∈ b) : a.length = b.length := ((List.perm_ext_iff_of_nodup ha hb).2 h).length_eq
theorem unite_size {a b : List Int} (ha : are a = true) (hb : are b = true) : (unite a b).length = (without a b).length + b.length := by
  rw [← List.length_append]
  refine perm_len (asc_nodup (unite_asc a b)) ?_ (fun x => ?_)
  · rw [List.nodup_append]
    refine ⟨asc_nodup (without_asc a b), asc_nodup (are_asc hb), fun x hx y hy e => ?_⟩
    subst e
    exact ((without_mem a b x).1 hx).2 hy
  · rw [unite_mem, List.mem_append, without_mem]
    by_cases h1 : x ∈ a <;> by_cases h2 : x ∈ b <;> simp [h1, h2]
theorem common_size {a b : List Int} (ha : are a = true) : (common a b).length + (without a b).length = a.length := by
  rw [← List.length_append]
  refine perm_len ?_ (asc_nodup (are_asc ha)) (fun x => ?_)
  · rw [List.nodup_append]
    refine ⟨asc_nodup (common_asc a b), asc_nodup (without_asc a b), fun x hx y hy e => ?_⟩
    subst e
    exact ((without_mem a b x).1 hy).2 ((common_mem a b x).1 hx).2
  · rw [List.mem_append, without_mem, common_mem]
    by_cases h1 : x ∈ a <;> by_cases h2 : x ∈ b <;> simp [h1, h2]
theorem unite_are {a b : List Int} (ha : are a = true) (hb : are b = true) : are (unite a b) = true :=
  are_of (unite_asc a b) (fun x hx => by
    rcases (unite_mem a b x).1 hx with h | h
    · exact are_mem ha x h
    · exact are_mem hb x h)
theorem vals_digs {l : List Int} (h : are l = true) : vals (digs l) = l := by
  have hm := are_mem h
  unfold vals digs
  rw [List.map_map]
  conv => rhs; rw [← List.map_id l]
  refine List.map_congr_left (fun x hx => ?_)
  have := hm x hx
  simp only [Function.comp, id]
  have e : (UInt8.ofNat (48 + x.toNat)).toNat = 48 + x.toNat := by rw [UInt8.toNat_ofNat']; exact Nat.mod_eq_of_lt (by omega)
  rw [e]; omega
theorem parse_fmt_sok (l : List Int) : parseSok (fmtS l) = are l := by
  unfold fmtS
  by_cases h : are l = true
  · rw [if_pos h, h]
    by_cases h0 : l.length = 0
    · rw [if_pos h0]; decide
    · rw [if_neg h0]
      have hne : digs l ≠ [] := fun e => h0 (by rw [← digs_length, e]; rfl)
      unfold parseSok okB
      rw [vals_digs h, h, decide_eq_true hne]; simp
  · rw [if_neg h, Bool.not_eq_true] at *
    rw [h]; decide
theorem parse_fmt {l : List Int} (h : are l = true) : parseS (fmtS l) = l := by
  unfold fmtS
  rw [if_pos h]
  by_cases h0 : l.length = 0
  · rw [if_pos h0, List.eq_nil_of_length_eq_zero h0]; decide
  · rw [if_neg h0]
    have hne : digs l ≠ [] := fun e => h0 (by rw [← digs_length, e]; rfl)
    unfold parseS okB
    rw [vals_digs h, h, decide_eq_true hne]; rfl
end Go.Proofs.YtmojigimlhjphaaDoor.kit
