/-
  Chapter 1, decimal numbers: what impl's ParseInt returns, for every string.
-/
import Derived.Test.YtgjebjoaemeeoaaGreatDoorC1Parse
namespace Go.Proofs.YtgjebjoaemeeoaaGreatDoor.kit
open Go.ChangeShapes Go.WideShapes Go.ChangeAt Go.RowKit
set_option linter.unusedVariables false

/-- what is left behind a leading minus -/
def strip (l : List UInt8) : List UInt8 := Lib.trimPrefix l [45]
theorem strip_minus (l : List UInt8) : strip (45 :: l) = l := by simp [strip, Lib.trimPrefix, Lib.hasPrefix]
theorem strip_other {l : List UInt8} (h : l.head? ≠ some 45) : strip l = l := by
  cases l with
  | nil => rfl
  | cons b l =>
    have hb : b ≠ 45 := fun e => h (by rw [e]; rfl)
    simp [strip, Lib.trimPrefix, Lib.hasPrefix]
    intro e; exact absurd e.symm hb
theorem strip_itoa (n : Int) : strip (Lib.itoa n) = Lib.decDigits n.natAbs := by
  unfold Lib.itoa
  by_cases h : n < 0
  · rw [if_pos h, strip_minus]
  · rw [if_neg h, strip_other (decDigits_head _), show n.toNat = n.natAbs by omega]
theorem strip_cases (l : List UInt8) : (l.length = (strip l).length + 1 ∧ cand l = -(dsum (strip l) : Int) ∧ dcount l = dcount (strip l)) ∨ (l.length = (strip l).length ∧ cand l = (dsum (strip l) : Int) ∧ dcount l = dcount (strip l)) := by
  by_cases h : l.head? = some 45
  · cases l with
    | nil => cases h
    | cons b l =>
      obtain rfl : b = 45 := Option.some.inj h
      rw [strip_minus]
      exact .inl ⟨rfl, by unfold cand; rw [if_pos h, dsum_minus], dcount_minus l⟩
  · rw [strip_other h]
    exact .inr ⟨rfl, by unfold cand; rw [if_neg h], rfl⟩
theorem par_strip_long {l : List UInt8} (h : 9 < (strip l).length) : parOk l = false ∧ parN l = 0 := par_no fun n hn he => by
  subst he
  rw [strip_itoa] at h
  have := decDigits_length_le hn
  omega
theorem par_strip_bad {l : List UInt8} {b : UInt8} (hb : b ∈ strip l) (h : isDig b = false) : parOk l = false ∧ parN l = 0 := par_no fun n hn he => by
  subst he
  rw [strip_itoa] at hb
  have := (dec_sum _).2.2 b hb
  rw [h] at this
  cases this
set_option maxRecDepth 100000 in
set_option maxHeartbeats 4000000 in
theorem implParseInt (s : ByteArray) (w : World) (hs : s.size ≤ 1048576) (hT : Tab w) :
    Calls Tryz.prog 71 #[.string s] w fun e w' => e = .returned (.tuple #[.int .i64 (parN s.data.toList), .bool (parOk s.data.toList)]) ∧ Below w.heap.size w w' := by
  have hsz : s.data.toList.length = s.size := by rw [Array.length_toList]; rfl
  have hcs := strip_cases s.data.toList
  rw [hsz] at hcs
  clear hsz
  obtain ⟨t, ht⟩ : ∃ t : ByteArray, t = ⟨(strip s.data.toList).toArray⟩ := ⟨_, rfl⟩
  have htl : t.data.toList = strip s.data.toList := by rw [ht]
  have hts : (strip s.data.toList).length = t.size := by rw [← htl, Array.length_toList]; rfl
  have c1 : ∀ W, Calls Tryz.prog 96 #[.string s, .string { data := #[45] }] W fun e w' => e = .returned (.string t) ∧ W = w' := fun W => by
    rw [ht]
    exact (Tryz.strings_TrimPrefix s { data := #[45] } W).mono fun e w' ⟨h1, h2⟩ => ⟨h1, h2.symm⟩
  have C1 := fun W => Lib.hid (c1 W)
  rw [hts, ← htl] at hcs
  have HC := Lib.hid hcs
  have HTL := Lib.hid htl
  have HTS := Lib.hid hts
  have htz : t.size ≤ 1048576 := by rcases hcs with ⟨h, _⟩ | ⟨h, _⟩ <;> omega
  clear c1 hcs ht htl hts
  by_cases hlong : t.size ≤ 9
  · go_enter Tryz.func71, Tryz.ntmps71
    go_wp2_with (go_at_call 96; refine ((C1 _).out).mono ?_; rintro e w1 ⟨rfl, rfl⟩)
    go_loopw [5] (fun n wr => ∃ k m : Nat, k ≤ t.size ∧ wr = w.iter t k ∧ n = .int .i64 m ∧ Hid (m = dsum (t.data.toList.take k)) ∧ Hid (dcount (t.data.toList.take k) = k)) (fun _ wr => t.size - wr.iterPos w.heap.size)
    case atStart => exact ⟨0, 0, by omega, rfl, rfl, Lib.hid rfl, Lib.hid rfl⟩
    case round =>
      obtain ⟨k, m, hk, rfl, rfl, hm, hcnt⟩ := hrel
      have hm9 : m < 1000000000 := by
        have h1 := dsum_lt (t.data.toList.take k)
        rw [← hm.out, hcnt.out] at h1
        have h2 := Nat.pow_le_pow_right (show 10 > 0 by omega) (show k ≤ 9 by omega)
        have h3 : 10 ^ 9 = 1000000000 := by decide
        omega
      by_cases hlt : k < t.size
      · have hbk : t[k].toNat < 256 := t[k].toNat_lt
        have hmem : Hid (t[k] ∈ strip s.data.toList) := Lib.hid (by
          rw [← HTL.out]
          have h1 : k < t.data.toList.length := by rw [HTL.out, HTS.out]; exact hlt
          exact List.getElem_mem h1)
        by_cases hlow : t[k].toNat < 128
        · have hnx : ∀ ty, (Instr.next (.pointer (some ⟨w.heap.size, 0, none⟩)) true ty).run Tryz.prog (w.iter t k) = _ := fun ty => run_next_ascii w t k ty hlt hlow
          by_cases h48 : 48 ≤ t[k].toNat
          · by_cases h57 : t[k].toNat ≤ 57
            · have hd : isDig t[k] = true := by unfold isDig; simp; omega
              have ht := take_snoc t k hlt
              have HM : Hid (10 * m + (t[k].toNat - 48) = dsum (t.data.toList.take (k + 1))) := Lib.hid (by rw [ht, dsum_snoc, if_pos hd, ← hm.out]; omega)
              have HQ : Hid (dcount (t.data.toList.take (k + 1)) = k + 1) := Lib.hid (by rw [ht, dcount_snoc, if_pos hd, hcnt.out])
              clear hd ht
              have g1 : decide ((t[k].toNat : Int) < 48) = false := by simp; omega
              have g2 : decide ((57 : Int) < t[k].toNat) = false := by simp; omega
              go_wp2_with fail
              go_roundw
              case rel => exact ⟨k + 1, 10 * m + (t[k].toNat - 48), by omega, rfl, by go_num, HM, HQ⟩
              case measure => simp; omega
            · have HD := Lib.hid (par_strip_bad hmem.out (by unfold isDig; simp; omega))
              have g1 : decide ((t[k].toNat : Int) < 48) = false := by simp; omega
              have g2 : decide ((57 : Int) < t[k].toNat) = true := by simp; omega
              go_wp2_with fail
              go_ret2
              exact ⟨by rw [HD.out.1, HD.out.2]; rfl, (Below.refl _ _).alloc (Nat.le_refl _) _⟩
          · have HD := Lib.hid (par_strip_bad hmem.out (by unfold isDig; simp; omega))
            have g1 : decide ((t[k].toNat : Int) < 48) = true := by simp; omega
            go_wp2_with fail
            go_ret2
            exact ⟨by rw [HD.out.1, HD.out.2]; rfl, (Below.refl _ _).alloc (Nat.le_refl _) _⟩
        · have HD := Lib.hid (par_strip_bad hmem.out (by unfold isDig; simp; omega))
          have hnx : ∀ ty, (Instr.next (.pointer (some ⟨w.heap.size, 0, none⟩)) true ty).run Tryz.prog (w.iter t k) = _ := fun ty => run_next_any w t k ty hlt
          have hd1 := (decode_high t k hlt (by omega)).1
          have hd2 := decode_le t k
          obtain ⟨d, hd⟩ : ∃ d, d = Utf8.decode t k := ⟨_, rfl⟩
          simp only [← hd] at hnx hd1 hd2
          clear hd
          have g1 : decide ((d.1 : Int) < 48) = false := by simp; omega
          have g2 : decide ((57 : Int) < (d.1 : Int)) = true := by simp; omega
          go_wp2_with fail
          go_ret2
          exact ⟨by rw [HD.out.1, HD.out.2]; rfl, (Below.refl _ _).alloc (Nat.le_refl _) _⟩
      · obtain rfl : k = t.size := by omega
        have hnx : ∀ ty, (Instr.next (.pointer (some ⟨w.heap.size, 0, none⟩)) true ty).run Tryz.prog (w.iter t t.size) = _ := fun ty => run_next_end w t t.size ty hlt
        have hfull : t.data.toList.take t.size = t.data.toList := List.take_of_length_le (by rw [HTL.out, HTS.out]; omega)
        rw [hfull] at hm hcnt
        clear hfull
        have hTi : Tab (w.iter t t.size) := hT.below ((Below.refl _ _).alloc (Nat.le_refl _) _)
        have hbi : Below w.heap.size w (w.iter t t.size) := (Below.refl _ _).alloc (Nat.le_refl _) _
        rcases HC.out with ⟨hlen, hcand, hct⟩ | ⟨hlen, hcand, hct⟩
        · rw [← hm.out] at hcand
          have hcount : Hid (dcount s.data.toList ≤ 9) := Lib.hid (by rw [hct, hcnt.out]; exact hlong)
          have g0 : t.size < s.size := by omega
          have HCA := Lib.hid hcand
          clear hlen hcand hct
          by_cases he : Lib.itoa (-(m : Int)) = s.data.toList
          · have HD := Lib.hid (par_same (l := s.data.toList) hcount.out (by rw [HCA.out]; exact he))
            have g2 : (Lib.itoa (-(m : Int)) == s.toList) = true := by rw [ByteArray.toList_eq]; simpa using he
            clear he
            go_wp2_with (go_at_call 32; refine (implFormatInt _ _ (by omega) (by omega) hTi).mono ?_; rintro e w1 ⟨rfl, hb1⟩)
            go_ret2
            exact ⟨by rw [HD.out.1, HD.out.2, HCA.out]; rfl, hbi.trans (hb1.mono hbi.size)⟩
          · have HD := Lib.hid (par_other (l := s.data.toList) (by rw [HCA.out]; exact he))
            have g2 : (Lib.itoa (-(m : Int)) == s.toList) = false := by rw [ByteArray.toList_eq]; simpa using he
            clear he
            go_wp2_with (go_at_call 32; refine (implFormatInt _ _ (by omega) (by omega) hTi).mono ?_; rintro e w1 ⟨rfl, hb1⟩)
            go_ret2
            exact ⟨by rw [HD.out.1, HD.out.2]; rfl, hbi.trans (hb1.mono hbi.size)⟩
        · rw [← hm.out] at hcand
          have hcount : Hid (dcount s.data.toList ≤ 9) := Lib.hid (by rw [hct, hcnt.out]; exact hlong)
          have g0 : ¬ t.size < s.size := by omega
          have HCA := Lib.hid hcand
          clear hlen hcand hct
          by_cases he : Lib.itoa (m : Int) = s.data.toList
          · have HD := Lib.hid (par_same (l := s.data.toList) hcount.out (by rw [HCA.out]; exact he))
            have g2 : (Lib.itoa (m : Int) == s.toList) = true := by rw [ByteArray.toList_eq]; simpa using he
            clear he
            go_wp2_with (go_at_call 32; refine (implFormatInt _ _ (by omega) (by omega) hTi).mono ?_; rintro e w1 ⟨rfl, hb1⟩)
            go_ret2
            exact ⟨by rw [HD.out.1, HD.out.2, HCA.out]; rfl, hbi.trans (hb1.mono hbi.size)⟩
          · have HD := Lib.hid (par_other (l := s.data.toList) (by rw [HCA.out]; exact he))
            have g2 : (Lib.itoa (m : Int) == s.toList) = false := by rw [ByteArray.toList_eq]; simpa using he
            clear he
            go_wp2_with (go_at_call 32; refine (implFormatInt _ _ (by omega) (by omega) hTi).mono ?_; rintro e w1 ⟨rfl, hb1⟩)
            go_ret2
            exact ⟨by rw [HD.out.1, HD.out.2]; rfl, hbi.trans (hb1.mono hbi.size)⟩
  · have HD := Lib.hid (par_strip_long (l := s.data.toList) (by rw [HTS.out]; omega))
    have hlong : (9 : Int) < t.size := by omega
    go_enter Tryz.func71, Tryz.ntmps71
    go_wp2_with (go_at_call 96; refine ((C1 _).out).mono ?_; rintro e w1 ⟨rfl, rfl⟩)
    go_ret2
    exact ⟨by rw [HD.out.1, HD.out.2]; rfl, Below.refl _ _⟩
end Go.Proofs.YtgjebjoaemeeoaaGreatDoor.kit
