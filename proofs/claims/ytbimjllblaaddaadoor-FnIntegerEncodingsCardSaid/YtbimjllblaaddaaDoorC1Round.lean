/-
  Chapter 1: what is encoded is decoded again: plain facts on lists and numbers.
-/
import Derived.Test.YtbimjllblaaddaaDoorC1ParseImpl
import Derived.Test.YtbimjllblaaddaaDoorC1DecVarint
import Derived.Test.YtbimjllblaaddaaDoorC1DecHexImpl
namespace Go.Proofs.YtbimjllblaaddaaDoor.kit
open Go.ChangeShapes Go.WideShapes Go.ChangeAt Go.RowKit
set_option linter.unusedVariables false

theorem low_vi : ∀ (k n : Nat), n < 128 ^ (k + 1) → low (vi n) = n := by
  intro k
  induction k with
  | zero =>
    intro n h
    have hn : n < 128 := by simpa using h
    rw [vi_small hn]
    simp [low]; omega
  | succ k ih =>
    intro n h
    by_cases hn : n < 128
    · rw [vi_small hn]; simp [low]; omega
    · rw [vi_big hn, low, ih (n / 128) (by rw [Nat.pow_succ] at h; omega)]
      simp; omega
theorem vi_ne (n : Nat) : 0 < (vi n).length := by rw [vi]; split <;> simp
theorem decV_enc {m : Nat} (h : m ≤ 562949953421311) (t : List UInt8) : decV (vi m ++ t) = (m, (vi m).length) := by
  have hp : m < 128 ^ (6 + 1) := by omega
  have hk : (vi m).length ≤ 7 := vi_length 6 m hp
  have hpos := vi_ne m
  have ht : (vi m ++ t).take (vi m).length = vi m := by simp
  have hlow : low ((vi m ++ t).take (vi m).length) = m := by rw [ht, low_vi 6 m hp]
  have hhit : Hit (vi m ++ t) (vi m).length := ⟨by simp, by rw [hlow, encV_in h, ht]⟩
  rw [decV_hit hpos hk hhit ?_, hlow]
  intro j h1 h2 hj
  have hjl : j - 1 < (vi m ++ t).length := by simp; omega
  have hs := hj.stop (i := j - 1) (by omega) hjl
  have hb : (vi m)[j - 1]? = some (vi m ++ t)[j - 1] := by
    rw [List.getElem_append_left (show j - 1 < (vi m).length by omega), List.getElem?_eq_getElem]
  have hv := vi_last 6 m hp _ _ hb
  omega
theorem fromBe_be : ∀ (k n : Nat), n < 256 ^ k → fromBe (be k n) = n := by
  have gen : ∀ (k n a : Nat), (be k n).foldl (fun a b => a * 256 + b.toNat) a = a * 256 ^ k + n % 256 ^ k := by
    intro k
    induction k with
    | zero => intro n a; simp [be, Nat.mod_one]
    | succ k ih =>
      intro n a
      rw [be, List.foldl_cons, ih]
      have h1 : (UInt8.ofNat (n / 256 ^ k)).toNat = n / 256 ^ k % 256 := by simp
      rw [h1, Nat.pow_succ, Nat.mod_mul, Nat.add_mul, Nat.mul_assoc, Nat.mul_comm 256 (256 ^ k)]
      rw [Nat.mul_comm (n / 256 ^ k % 256) (256 ^ k)]
      omega
  intro k n h
  unfold fromBe
  rw [gen, Nat.mod_eq_of_lt h]; omega
theorem encF_some {n wd : Int} (h : encF n wd ≠ []) : 1 ≤ wd ∧ wd ≤ 7 ∧ 0 ≤ n ∧ n.toNat < 256 ^ wd.toNat ∧ encF n wd = be wd.toNat n.toNat := by
  unfold encF at h ⊢
  split
  · rename_i hh
    exact ⟨hh.1, hh.2.1, hh.2.2.1, hh.2.2.2, rfl⟩
  · rename_i hh
    rw [if_neg hh] at h
    exact absurd rfl h
theorem decF_enc {n wd : Int} (h : encF n wd ≠ []) (t : List UInt8) : decFn (encF n wd ++ t) wd = n ∧ decFb (encF n wd ++ t) wd = true ∧ ((encF n wd).length : Int) = wd := by
  obtain ⟨h1, h2, h3, h4, h5⟩ := encF_some h
  have hl : (encF n wd).length = wd.toNat := by rw [h5, be_length]
  have hin : 1 ≤ wd ∧ wd ≤ 7 ∧ wd.toNat ≤ (encF n wd ++ t).length := ⟨h1, h2, by rw [List.length_append]; omega⟩
  refine ⟨?_, ?_, by omega⟩
  · unfold decFn
    rw [if_pos hin]
    have : (encF n wd ++ t).take wd.toNat = encF n wd := by rw [← hl]; simp
    rw [this, h5, fromBe_be _ _ h4]; omega
  · unfold decFb
    exact decide_eq_true hin
theorem good_enc (t : List UInt8) : good (encH t) = true := by
  induction t with
  | nil => rfl
  | cons b t ih =>
    have h1 : encH (b :: t) = hexB b ++ encH t := by simp [encH]
    have hb : b.toNat < 256 := b.toNat_lt
    have e1 := hexc_hval (b.toNat / 16) (by omega)
    have e2 := hexc_hval (b.toNat % 16) (by omega)
    rw [h1]
    unfold good at ih ⊢
    rw [List.all_append, ih]
    have a1 : b.toNat / 16 < 16 := by omega
    have a2 : b.toNat % 16 < 16 := by omega
    simp [hexB, e1, e2, a1, a2]
theorem dec_enc (t : List UInt8) : dec (encH t) = t := by
  induction t with
  | nil => rfl
  | cons b t ih =>
    have h1 : encH (b :: t) = hexc (b.toNat / 16) :: hexc (b.toNat % 16) :: encH t := by simp [encH, hexB]
    have hb : b.toNat < 256 := b.toNat_lt
    rw [h1, dec, ih, hexc_hval _ (by omega), hexc_hval _ (by omega)]
    have : 16 * (b.toNat / 16) + b.toNat % 16 = b.toNat := by omega
    rw [this, UInt8.ofNat_toNat]
theorem decH_enc (t : List UInt8) : decHok (encH t) = true ∧ decHs (encH t) = t := by
  have h := decH_good (l := encH t) (by rw [encH_length]; omega) (good_enc t)
  exact ⟨h.1, h.2.trans (dec_enc t)⟩
theorem par_itoa_in {n : Int} (h : n.natAbs < 1000000000) : parOk (Lib.itoa n) = true ∧ parN (Lib.itoa n) = n := par_yes rfl h
theorem par_itoa_out {n : Int} (h : ¬ n.natAbs < 1000000000) : parOk (Lib.itoa n) = false ∧ parN (Lib.itoa n) = 0 := par_no fun m hm he => by
  have h1 := cand_itoa m
  rw [he, cand_itoa] at h1
  omega
theorem itoa_size (n : Int) (h0 : -9223372036854775808 ≤ n) (h1 : n ≤ 9223372036854775807) : (Lib.itoa n).length ≤ 21 := by
  have h := itoa_length (n := n)
  have := decDigits_length 19 n.natAbs (by omega)
  omega
end Go.Proofs.YtbimjllblaaddaaDoor.kit
