/-
  Chapter 1, decimal numbers: what spec's and impl's ParseInt return, for every string.
-/
import Derived.Test.YtmojigimlhjphaaDoorC1Int
import Derived.Lib.OthersKept
import Derived.WalkSmall
import Derived.Lib.Strings
import Derived.Deep.DeepCutAuto
import Derived.Deep.RegionWith
namespace Go.Proofs.YtmojigimlhjphaaDoor.kit
open Go.ChangeShapes Go.WideShapes Go.ChangeAt Go.RowKit
set_option linter.unusedVariables false

def isDig (b : UInt8) : Bool := decide (48 ≤ b.toNat ∧ b.toNat ≤ 57)
/-- the number that a list's digits stand for; what is no digit is passed over -/
def dsum (l : List UInt8) : Nat := l.foldl (fun a b => if isDig b then a * 10 + (b.toNat - 48) else a) 0
def dcount (l : List UInt8) : Nat := (l.filter isDig).length
theorem dsum_snoc (l : List UInt8) (b : UInt8) : dsum (l ++ [b]) = if isDig b then dsum l * 10 + (b.toNat - 48) else dsum l := by simp [dsum]
theorem dcount_snoc (l : List UInt8) (b : UInt8) : dcount (l ++ [b]) = if isDig b then dcount l + 1 else dcount l := by
  unfold dcount
  rw [List.filter_append, List.length_append]
  cases h : isDig b <;> simp [h]
theorem dsum_lt (l : List UInt8) : dsum l < 10 ^ dcount l := by
  induction l using bytes_rec with
  | h0 => simp [dsum, dcount]
  | h1 l b ih =>
    rw [dsum_snoc, dcount_snoc]
    cases h : isDig b with
    | false => simpa using ih
    | true =>
      have hb : b.toNat ≤ 57 := by unfold isDig at h; simp at h; omega
      simp only [if_true, Nat.pow_succ]
      omega
theorem dcount_le (l : List UInt8) : dcount l ≤ l.length := List.length_filter_le _ _
theorem digit_at : ∀ k : Nat, k < 10 → isDig (UInt8.ofNat (48 + k)) = true ∧ (UInt8.ofNat (48 + k)).toNat = 48 + k := by decide +kernel
theorem dec_sum : ∀ u : Nat, dsum (Lib.decDigits u) = u ∧ dcount (Lib.decDigits u) = (Lib.decDigits u).length ∧ (∀ b ∈ Lib.decDigits u, isDig b = true) := by
  intro u
  induction u using Nat.strongRecOn with
  | _ u ih =>
    by_cases h : u < 10
    · rw [decDigits_small h]
      have hd := digit_at u h
      refine ⟨?_, ?_, ?_⟩
      · have := dsum_snoc [] (UInt8.ofNat (48 + u))
        rw [List.nil_append] at this
        rw [this, if_pos hd.1, hd.2]; simp [dsum]
      · have := dcount_snoc [] (UInt8.ofNat (48 + u))
        rw [List.nil_append] at this
        rw [this, if_pos hd.1]; rfl
      · intro b hb
        simp only [List.mem_singleton] at hb
        rw [hb]; exact hd.1
    · rw [decDigits_big h]
      have hd := digit_at (u % 10) (Nat.mod_lt _ (by omega))
      have hi := ih (u / 10) (by omega)
      refine ⟨?_, ?_, ?_⟩
      · rw [dsum_snoc, if_pos hd.1, hd.2, hi.1]; omega
      · rw [dcount_snoc, if_pos hd.1, hi.2.1, List.length_append]; rfl
      · intro b hb
        rcases List.mem_append.1 hb with hb | hb
        · exact hi.2.2 b hb
        · simp only [List.mem_singleton] at hb
          rw [hb]; exact hd.1
theorem decDigits_length_le {u : Nat} (h : u < 1000000000) : (Lib.decDigits u).length ≤ 9 := decDigits_length 8 u h
theorem not_dig_minus : isDig 45 = false := by decide
theorem decDigits_pos (u : Nat) : 0 < (Lib.decDigits u).length := by
  by_cases h : u < 10
  · rw [decDigits_small h]; simp
  · rw [decDigits_big h]; simp
theorem decDigits_head (u : Nat) : (Lib.decDigits u).head? ≠ some 45 := by
  intro h
  have := (dec_sum u).2.2 45 (List.mem_of_mem_head? h)
  rw [not_dig_minus] at this
  cases this

/-- the number that a numeral's text stands for: minus where it begins so -/
def cand (l : List UInt8) : Int := if l.head? = some 45 then -(dsum l : Int) else dsum l
theorem dsum_minus (l : List UInt8) : dsum (45 :: l) = dsum l := by
  unfold dsum
  rw [List.foldl_cons, not_dig_minus]; rfl
theorem dcount_minus (l : List UInt8) : dcount (45 :: l) = dcount l := by
  unfold dcount
  rw [List.filter_cons, not_dig_minus]; rfl
theorem cand_itoa (n : Int) : cand (Lib.itoa n) = n := by
  unfold Lib.itoa cand
  by_cases h : n < 0
  · rw [if_pos h, List.head?_cons, if_pos rfl, dsum_minus, (dec_sum n.natAbs).1]; omega
  · rw [if_neg h, if_neg (decDigits_head _), (dec_sum n.toNat).1]; omega
theorem itoa_count {n : Int} : dcount (Lib.itoa n) = (Lib.decDigits n.natAbs).length := by
  unfold Lib.itoa
  by_cases h : n < 0
  · rw [if_pos h, dcount_minus, (dec_sum _).2.1]
  · rw [if_neg h, (dec_sum _).2.1]
    congr 1
    congr 1
    omega
theorem itoa_length {n : Int} : (Lib.itoa n).length ≤ (Lib.decDigits n.natAbs).length + 1 := by
  unfold Lib.itoa
  by_cases h : n < 0
  · rw [if_pos h]; simp
  · rw [if_neg h, show n.toNat = n.natAbs by omega]; omega
theorem decDigits_lt {u k : Nat} (h : (Lib.decDigits u).length ≤ k) : u < 10 ^ k := by
  have h1 := dsum_lt (Lib.decDigits u)
  rw [(dec_sum u).1, (dec_sum u).2.1] at h1
  exact Nat.lt_of_lt_of_le h1 (Nat.pow_le_pow_right (by omega) h)

/-- ParseInt's two results: the number whose numeral is l, if it has at most nine digits -/
def parOk (l : List UInt8) : Bool := decide (Lib.itoa (cand l) = l ∧ (cand l).natAbs < 1000000000)
def parN (l : List UInt8) : Int := if parOk l then cand l else 0
theorem par_yes {l : List UInt8} {n : Int} (h : Lib.itoa n = l) (hn : n.natAbs < 1000000000) : parOk l = true ∧ parN l = n := by
  subst h
  have h1 : parOk (Lib.itoa n) = true := by unfold parOk; rw [cand_itoa]; simpa using hn
  exact ⟨h1, by unfold parN; rw [h1, cand_itoa]; rfl⟩
theorem par_no {l : List UInt8} (h : ∀ n : Int, n.natAbs < 1000000000 → Lib.itoa n ≠ l) : parOk l = false ∧ parN l = 0 := by
  have h1 : parOk l = false := by
    unfold parOk
    rw [decide_eq_false]
    intro ⟨h2, h3⟩
    exact h _ h3 h2
  exact ⟨h1, by unfold parN; rw [h1]; rfl⟩
theorem par_long {l : List UInt8} (h : 10 < l.length) : parOk l = false ∧ parN l = 0 := par_no fun n hn he => by
  subst he
  have h1 := itoa_length (n := n)
  have h2 := decDigits_length_le hn
  omega
theorem par_many {l : List UInt8} (h : 9 < dcount l) : parOk l = false ∧ parN l = 0 := par_no fun n hn he => by
  subst he
  have h1 := itoa_count (n := n)
  have h2 := decDigits_length_le hn
  omega
theorem cand_lt {l : List UInt8} (h : dcount l ≤ 9) : (cand l).natAbs < 1000000000 := by
  have h1 := dsum_lt l
  have h2 := Nat.pow_le_pow_right (show 10 > 0 by omega) h
  have h3 : 10 ^ 9 = 1000000000 := by decide
  unfold cand
  split <;> omega
theorem par_same {l : List UInt8} (hc : dcount l ≤ 9) (h : Lib.itoa (cand l) = l) : parOk l = true ∧ parN l = cand l := par_yes h (cand_lt hc)
theorem par_other {l : List UInt8} (h : Lib.itoa (cand l) ≠ l) : parOk l = false ∧ parN l = 0 := par_no fun n _ he => by
  subst he
  rw [cand_itoa] at h
  exact h rfl

set_option maxRecDepth 100000 in
set_option maxHeartbeats 4000000 in
theorem specParseInt (s : ByteArray) (w : World) (hs : s.size ≤ 1048576) :
    Calls Tryd.prog 42 #[.string s] w fun e w' => e = .returned (.tuple #[.int .i64 (parN s.data.toList), .bool (parOk s.data.toList)]) ∧ Below w.heap.size w w' := by
  have hsz : s.data.toList.length = s.size := by rw [Array.length_toList]; rfl
  have HZ := Lib.hid hsz
  clear hsz
  go_enter Tryd.func42, Tryd.ntmps42
  go_wp2_with fail
  go_loop [4, 5, 6] (fun n c i => ∃ k m q : Nat, k ≤ s.size ∧ k ≤ 11 ∧ i = .int .i64 k ∧ n = .int .i64 m ∧ c = .int .i64 q ∧ Hid (m = dsum (s.data.toList.take k)) ∧ Hid (q = dcount (s.data.toList.take k))) (fun _ _ i => s.size - (intOf i).toNat)
  case atStart => exact ⟨0, 0, 0, by omega, by omega, rfl, rfl, rfl, Lib.hid rfl, Lib.hid rfl⟩
  case round =>
    obtain ⟨k, m, q, hks, hk11, rfl, rfl, rfl, hm, hq⟩ := hrel
    have hq11 : q ≤ k := by
      rw [hq.out]
      exact Nat.le_trans (dcount_le _) (List.length_take_le _ _)
    have hm11 : m < 100000000000 := by
      have h1 := dsum_lt (s.data.toList.take k)
      rw [← hm.out, ← hq.out] at h1
      have h2 := Nat.pow_le_pow_right (show 10 > 0 by omega) (show q ≤ 11 by omega)
      have h3 : 10 ^ 11 = 100000000000 := by decide
      omega
    by_cases hlt : k < s.size
    · by_cases h11 : k < 11
      · have ht := Lib.hid (take_snoc s k hlt)
        have hbk : s[k].toNat < 256 := s[k].toNat_lt
        by_cases h48 : 48 ≤ s[k].toNat
        · by_cases h57 : s[k].toNat ≤ 57
          · have hd : isDig s[k] = true := by unfold isDig; simp; omega
            have HM : Hid (m * 10 + (s[k].toNat - 48) = dsum (s.data.toList.take (k + 1))) := Lib.hid (by rw [ht.out, dsum_snoc, if_pos hd, ← hm.out])
            have HQ : Hid (q + 1 = dcount (s.data.toList.take (k + 1))) := Lib.hid (by rw [ht.out, dcount_snoc, if_pos hd, ← hq.out])
            clear hd
            go_wp2_with fail
            go_round
            case rel => exact ⟨k + 1, m * 10 + (s[k].toNat - 48), q + 1, by omega, by omega, by go_num, by go_num, by go_num, HM, HQ⟩
            case measure => simp [intOf]; omega
          · have hd : isDig s[k] = false := by unfold isDig; simp; omega
            have HM : Hid (m = dsum (s.data.toList.take (k + 1))) := Lib.hid (by rw [ht.out, dsum_snoc, hd, ← hm.out]; rfl)
            have HQ : Hid (q = dcount (s.data.toList.take (k + 1))) := Lib.hid (by rw [ht.out, dcount_snoc, hd, ← hq.out]; rfl)
            clear hd
            go_wp2_with fail
            go_round
            case rel => exact ⟨k + 1, m, q, by omega, by omega, by go_num, rfl, rfl, HM, HQ⟩
            case measure => simp [intOf]; omega
        · have hd : isDig s[k] = false := by unfold isDig; simp; omega
          have HM : Hid (m = dsum (s.data.toList.take (k + 1))) := Lib.hid (by rw [ht.out, dsum_snoc, hd, ← hm.out]; rfl)
          have HQ : Hid (q = dcount (s.data.toList.take (k + 1))) := Lib.hid (by rw [ht.out, dcount_snoc, hd, ← hq.out]; rfl)
          clear hd
          go_wp2_with fail
          go_round
          case rel => exact ⟨k + 1, m, q, by omega, by omega, by go_num, rfl, rfl, HM, HQ⟩
          case measure => simp [intOf]; omega
      · have HD := Lib.hid (par_long (l := s.data.toList) (by rw [HZ.out]; omega))
        have hlong : (10 : Int) < s.size := by omega
        go_wp2_with fail
        all_goals
          go_ret2
          exact ⟨by rw [HD.out.1, HD.out.2]; rfl, Below.refl _ _⟩
    · obtain rfl : k = s.size := by omega
      have hfull : s.data.toList.take s.size = s.data.toList := List.take_of_length_le (by rw [HZ.out]; omega)
      rw [hfull] at hm hq
      clear hfull
      by_cases h10 : s.size ≤ 10
      · by_cases hq9 : q ≤ 9
        · have hcount : Hid (dcount s.data.toList ≤ 9) := Lib.hid (by rw [← hq.out]; exact hq9)
          by_cases h0 : 0 < s.size
          · have hhead : Hid (s.data.toList.head? = some s[0]) := Lib.hid (by
              have h1 : 0 < s.data.toList.length := by rw [HZ.out]; exact h0
              rw [List.head?_eq_getElem?, List.getElem?_eq_getElem h1]; rfl)
            by_cases hneg : s[0] = 45
            · have g1 : (((s[0]'h0).toNat : Int) == 45) = true := by rw [hneg]; rfl
              have hc : Hid (cand s.data.toList = -(m : Int)) := Lib.hid (by unfold cand; rw [hhead.out, hneg, if_pos rfl, ← hm.out])
              clear hneg
              by_cases he : Lib.itoa (-(m : Int)) = s.data.toList
              · have HD := Lib.hid (par_same (l := s.data.toList) hcount.out (by rw [hc.out]; exact he))
                have g2 : (Lib.itoa (-(m : Int)) == s.toList) = true := by rw [ByteArray.toList_eq]; simpa using he
                clear he
                go_wp2_with (go_at_call 16; refine (specFormatInt _ _ (by omega) (by omega)).mono ?_; rintro e w1 ⟨rfl, hb1⟩)
                go_ret2
                exact ⟨by rw [HD.out.1, HD.out.2, hc.out]; rfl, hb1⟩
              · have HD := Lib.hid (par_other (l := s.data.toList) (by rw [hc.out]; exact he))
                have g2 : (Lib.itoa (-(m : Int)) == s.toList) = false := by rw [ByteArray.toList_eq]; simpa using he
                clear he
                go_wp2_with (go_at_call 16; refine (specFormatInt _ _ (by omega) (by omega)).mono ?_; rintro e w1 ⟨rfl, hb1⟩)
                go_ret2
                exact ⟨by rw [HD.out.1, HD.out.2]; rfl, hb1⟩
            · have g1 : (((s[0]'h0).toNat : Int) == 45) = false := by
                rw [beq_eq_false_iff_ne]
                intro h
                exact hneg (UInt8.toNat.inj (by show _ = 45; omega))
              have hc : Hid (cand s.data.toList = (m : Int)) := Lib.hid (by unfold cand; rw [hhead.out, if_neg (fun h => hneg (Option.some.inj h)), ← hm.out])
              clear hneg
              by_cases he : Lib.itoa (m : Int) = s.data.toList
              · have HD := Lib.hid (par_same (l := s.data.toList) hcount.out (by rw [hc.out]; exact he))
                have g2 : (Lib.itoa (m : Int) == s.toList) = true := by rw [ByteArray.toList_eq]; simpa using he
                clear he
                go_wp2_with (go_at_call 16; refine (specFormatInt _ _ (by omega) (by omega)).mono ?_; rintro e w1 ⟨rfl, hb1⟩)
                go_ret2
                exact ⟨by rw [HD.out.1, HD.out.2, hc.out]; rfl, hb1⟩
              · have HD := Lib.hid (par_other (l := s.data.toList) (by rw [hc.out]; exact he))
                have g2 : (Lib.itoa (m : Int) == s.toList) = false := by rw [ByteArray.toList_eq]; simpa using he
                clear he
                go_wp2_with (go_at_call 16; refine (specFormatInt _ _ (by omega) (by omega)).mono ?_; rintro e w1 ⟨rfl, hb1⟩)
                go_ret2
                exact ⟨by rw [HD.out.1, HD.out.2]; rfl, hb1⟩
          · have hnil : s.data.toList = [] := List.eq_nil_of_length_eq_zero (by rw [HZ.out]; omega)
            have hm0 : m = 0 := by rw [hm.out, hnil]; rfl
            subst hm0
            have hc : cand s.data.toList = ((0 : Nat) : Int) := by rw [hnil]; rfl
            have hi0 : Lib.itoa ((0 : Nat) : Int) = [48] := by unfold Lib.itoa; rw [if_neg (by omega)]; exact decDigits_small (by decide)
            have HD := Lib.hid (par_other (l := s.data.toList) (by rw [hc, hi0, hnil]; simp))
            have g2 : (Lib.itoa (0 : Int) == s.toList) = false := by rw [ByteArray.toList_eq, hnil, show (0 : Int) = ((0 : Nat) : Int) from rfl, hi0]; rfl
            clear hc hi0 hnil
            go_wp2_with (go_at_call 16; refine (specFormatInt _ _ (by omega) (by omega)).mono ?_; rintro e w1 ⟨rfl, hb1⟩)
            go_ret2
            exact ⟨by rw [HD.out.1, HD.out.2]; rfl, hb1⟩
        · have HD := Lib.hid (par_many (l := s.data.toList) (by rw [← hq.out]; omega))
          have hlong : (9 : Int) < q := by omega
          go_wp2_with fail
          all_goals
            go_ret2
            exact ⟨by rw [HD.out.1, HD.out.2]; rfl, Below.refl _ _⟩
      · have HD := Lib.hid (par_long (l := s.data.toList) (by rw [HZ.out]; omega))
        have hlong : (10 : Int) < s.size := by omega
        go_wp2_with fail
        all_goals
          go_ret2
          exact ⟨by rw [HD.out.1, HD.out.2]; rfl, Below.refl _ _⟩
end Go.Proofs.YtmojigimlhjphaaDoor.kit
