/-
  For every code, what is drawn out of it is encoded and decoded again as the law asks: the law returns true and changes nothing that was there. The card ties the library's listed tables to the program's text. No condition.
-/
import Derived.Test.YtbimjllblaaddaaDoorKitLaid
import Derived.Test.YtbimjllblaaddaaDoorC1Round
import Derived.Test.YtbimjllblaaddaaDoorC1Draw
import Derived.Deep.DeepCutAuto
namespace Go.Proofs.YtbimjllblaaddaaDoor.fnIntegerEncodings
open Go.ChangeShapes Go.WideShapes Go.ChangeAt Go.RowKit
open Go.ChangeMaps (open_string shut_string)
open kit
set_option linter.unusedVariables false

theorem big_yes (A : Option Addr) (len cap : Nat) (w : World) (h : 1048576 < len) (h2 : len ≤ 9223372036854775807) : Calls Tryd.prog 6 #[.slice A len cap] w fun e w' => e = .returned (.bool true) ∧ w = w' := by
  have hd : decide ((1048576 : Int) < (len : Int)) = true := by simp; omega
  have HD := Lib.hid hd
  clear hd
  go_enter Tryd.func6, Tryd.ntmps6
  go_wp2_with fail
  go_ret
  exact ⟨by rw [← HD.out]; rfl, rfl⟩
theorem big_no (A : Option Addr) (len cap : Nat) (w : World) (h : ¬ 1048576 < len) : Calls Tryd.prog 6 #[.slice A len cap] w fun e w' => e = .returned (.bool false) ∧ w = w' := by
  have hd : decide ((1048576 : Int) < (len : Int)) = false := by simp; omega
  have HD := Lib.hid hd
  clear hd
  go_enter Tryd.func6, Tryd.ntmps6
  go_wp2_with fail
  go_ret
  exact ⟨by rw [← HD.out]; rfl, rfl⟩
theorem cat_size (a b : List UInt8) (ha : a.length ≤ 100) (hb : b.length ≤ 100) : (⟨(a ++ b).toArray⟩ : ByteArray).size ≤ maxLen := by
  unfold maxLen
  show (a ++ b).toArray.size ≤ _
  simp; omega
/-- what the first test sees of EncodeVarint and DecodeVarint -/
theorem first_ok (n : Int) (t : List UInt8) : (encV n).isEmpty = !(decide (0 ≤ n) && decide (n ≤ 562949953421311)) ∧ ((encV n).isEmpty = false → ((decV (encV n ++ t)).1 : Int) = n ∧ (decV (encV n ++ t)).2 = (encV n).length) := by
  by_cases h : 0 ≤ n ∧ n ≤ 562949953421311
  · obtain ⟨m, rfl⟩ := Int.eq_ofNat_of_zero_le h.1
    have hm : m ≤ 562949953421311 := by omega
    rw [encV_in hm, decV_enc hm t]
    have hv := vi_ne m
    have he : (vi m).isEmpty = false := by
      cases hvi : vi m with
      | nil => rw [hvi] at hv; simp at hv
      | cons b l => rfl
    refine ⟨?_, fun _ => ⟨rfl, rfl⟩⟩
    rw [he, decide_eq_true h.1, decide_eq_true h.2]; rfl
  · rw [encV_out (by omega)]
    refine ⟨?_, fun h => by cases h⟩
    by_cases h0 : 0 ≤ n
    · rw [decide_eq_true h0, decide_eq_false (fun hh => h ⟨h0, hh⟩)]; rfl
    · rw [decide_eq_false h0]; rfl
set_option maxRecDepth 100000 in
set_option maxHeartbeats 4000000 in
theorem walk (a0 : Option Addr) (len0 cap0 : Nat) (z0 : List Int) (w : World) (w0 : IsRow .u8 w a0 len0 cap0 z0) (hT : Tab w) :
    Calls Tryd.prog 3 #[.slice a0 len0 cap0] w fun e w' => e = .returned (.bool true) ∧ Below w.heap.size w w' := by
  have hl : len0 ≤ 9223372036854775807 := by
    rcases w0 with ⟨_, h, _⟩ | ⟨_, _, h1, h2, _⟩
    · omega
    · unfold maxLen at h2; omega
  have hcode := Lib.hid (code_of_row w0)
  clear w0
  by_cases hbig : 1048576 < len0
  · have CB := Lib.hid (big_yes a0 len0 cap0 w hbig hl)
    clear hbig
    go_enter Tryd.func3, Tryd.ntmps3
    go_wp2_with fail
    refine (CB.out).mono ?_
    rintro e w1 ⟨rfl, rfl⟩
    go_wp2_with fail
    go_ret
    exact ⟨rfl, Below.refl _ _⟩
  · have CB := Lib.hid (big_no a0 len0 cap0 w hbig)
    clear hbig
    go_enter Tryd.func3, Tryd.ntmps3
    go_wp2_with fail
    refine (CB.out).mono ?_
    rintro e w1 ⟨rfl, rfl⟩
    go_wp2_with fail
    refine (drawEncodeVarint a0 len0 cap0 z0 w hcode.out).mono ?_
    rintro e w1 ⟨n, rfl, hn, hb1⟩
    go_wp2_with fail
    refine (drawEncodeHex a0 len0 cap0 z0 w1 (hcode.out.below hb1)).mono ?_
    rintro e w2 ⟨t, rfl, ht, hb2'⟩
    have hb2 := hb1.trans (hb2'.mono hb1.size)
    clear hb1 hb2'
    have HN := Lib.hid hn
    clear hn
    go_wp2_with fail
    refine (implEncodeVarint n _ HN.out.2).mono ?_
    rintro e w3 ⟨rfl, hb3'⟩
    have hb3 := hb2.trans (hb3'.mono hb2.size)
    clear hb2 hb3'
    have he7 := encV_len n
    have HF := Lib.hid (first_ok n t)
    have hcat := Lib.hid (cat_size (encV n) t (by omega) (by omega))
    go_wp2_with fail
    rw [ByteArray.mk_append_mk]
    refine (implDecodeVarint _ _ hcat.out).mono ?_
    rintro e w4 ⟨rfl, hb4'⟩
    have hb4 := hb3.trans (hb4'.mono hb3.size)
    clear hb3 hb4'
    obtain ⟨s, hs⟩ : ∃ s, s = encV n := ⟨_, rfl⟩
    obtain ⟨d, hd⟩ : ∃ d, d = decV (encV n ++ t) := ⟨_, rfl⟩
    obtain ⟨hF1, hF2⟩ := HF.out
    rw [show (⟨(encV n ++ t).toArray⟩ : ByteArray).data.toList = encV n ++ t from rfl, ← hd, ← hs]
    rw [← hd, ← hs] at hF2
    rw [← hs] at hF1 he7
    clear HF hcat hs hd
    obtain ⟨d1, d2⟩ := d
    go_upto_region 7 with fail
    go_cut [57] (fun b wx => b = .bool false ∧ wx = w4)
    case first =>
      by_cases hr : 0 ≤ n ∧ n ≤ 562949953421311
      · have hse : s.isEmpty = false := by rw [hF1, decide_eq_true hr.1, decide_eq_true hr.2]; rfl
        obtain ⟨hx, hy⟩ := hF2 hse
        subst hx hy
        have h1 := hr.1
        have h2 := hr.2
        clear hr hF1 hF2
        go_wp2_with fail
        go_meet
        exact ⟨rfl, rfl⟩
      · have hse : s.isEmpty = true := by
          rw [hF1]
          by_cases h0 : 0 ≤ n
          · rw [decide_eq_true h0, decide_eq_false (fun hh => hr ⟨h0, hh⟩)]; rfl
          · rw [decide_eq_false h0]; rfl
        clear hF1 hF2
        by_cases h0 : 0 ≤ n
        · have h1 : ¬ n ≤ 562949953421311 := fun hh => hr ⟨h0, hh⟩
          have h2 : decide (n ≤ 562949953421311) = false := by simp; omega
          clear hr
          go_wp2_with fail
          go_meet
          exact ⟨rfl, rfl⟩
        · have h2 : decide (0 ≤ n) = false := by simp; omega
          clear hr
          go_wp2_with fail
          go_meet
          exact ⟨rfl, rfl⟩
    case rest =>
      obtain ⟨rfl, rfl⟩ := hcut
      clear hF1 hF2
      go_wp2_with fail
      refine (drawEncodeFixed a0 len0 cap0 z0 _ (hcode.out.below hb4)).mono ?_
      rintro e w5 ⟨x, y, rfl, hx, hy0, hy1, hb5'⟩
      have hb5 := hb4.trans (hb5'.mono hb4.size)
      have HX := Lib.hid hx
      clear hb4 hb5' hx
      go_wp2_with fail
      refine (implEncodeFixed x y _ HX.out.2).mono ?_
      rintro e w6 ⟨rfl, hb6'⟩
      have hb6 := hb5.trans (hb6'.mono hb5.size)
      clear hb5 hb6'
      have hf7 := encF_size x y
      have hcat2 := Lib.hid (cat_size (encF x y) t (by omega) (by omega))
      go_wp2_with fail
      rw [ByteArray.mk_append_mk]
      refine (implDecodeFixed _ _ _ hcat2.out).mono ?_
      rintro e w7 ⟨rfl, rfl⟩
      rw [show (⟨(encF x y ++ t).toArray⟩ : ByteArray).data.toList = encF x y ++ t from rfl]
      have HG := Lib.hid (fun h => decF_enc (n := x) (wd := y) h t)
      have CS := fun W => Lib.hid (specEncodeFixed x y W HX.out.2)
      obtain ⟨f, hf⟩ : ∃ f, f = encF x y := ⟨_, rfl⟩
      obtain ⟨u, hu⟩ : ∃ u, u = decFn (encF x y ++ t) y := ⟨_, rfl⟩
      obtain ⟨b, hbb⟩ : ∃ b, b = decFb (encF x y ++ t) y := ⟨_, rfl⟩
      have HG' := HG.out
      rw [← hu, ← hbb, ← hf] at HG'
      rw [← hu, ← hbb, ← hf]
      rw [← hf] at hf7 CS
      clear hcat2 HG hu hbb hf
      go_upto_region 12 with fail
      go_cut [99] (fun b wx => b = .bool false ∧ Below w.heap.size w wx)
      case first =>
        by_cases hfe : f = []
        · subst hfe
          clear HG'
          go_wp2_with (go_at_call 14; refine ((CS _).out).mono ?_; rintro e w7 ⟨rfl, hb7⟩)
          go_meet
          exact ⟨rfl, hb6.trans (hb7.mono hb6.size)⟩
        · obtain ⟨rfl, rfl, hfl⟩ := HG' hfe
          have g1 : f.isEmpty = false := by cases f with | nil => exact absurd rfl hfe | cons b l => rfl
          have g2 : ((f.length : Int) != y) = false := by rw [hfl]; simp
          clear HG' hfe hfl
          go_wp2_with (go_at_call 14; refine ((CS _).out).mono ?_; rintro e w7 ⟨rfl, hb7⟩)
          go_meet
          exact ⟨rfl, hb6.trans (hb7.mono hb6.size)⟩
      case rest =>
        obtain ⟨rfl, hb7⟩ := hcut
        clear HG' CS hb6
        have ht1 : (⟨t.toArray⟩ : ByteArray).size ≤ 1048576 := by show t.toArray.size ≤ _; simp; omega
        have he2 : (encH t).length = 2 * t.length := encH_length t
        have ht2 : (⟨(encH t).toArray⟩ : ByteArray).size ≤ 1048576 := by show (encH t).toArray.size ≤ _; simp; omega
        have HT1 := Lib.hid ht1
        have HT2 := Lib.hid ht2
        have HE2 := Lib.hid he2
        clear ht1 ht2 he2
        go_wp2_with fail
        refine (implEncodeHex _ _ HT1.out).mono ?_
        rintro e w8 ⟨rfl, hb8'⟩
        have hb8 := hb7.trans (hb8'.mono hb7.size)
        clear hb7 hb8'
        rw [show (⟨t.toArray⟩ : ByteArray).data.toList = t from rfl]
        go_wp2_with fail
        refine (implDecodeHex _ _ HT2.out).mono ?_
        rintro e w9 ⟨rfl, hb9'⟩
        have hb9 := hb8.trans (hb9'.mono hb8.size)
        clear hb8 hb9'
        rw [show (⟨(encH t).toArray⟩ : ByteArray).data.toList = encH t from rfl, (decH_enc t).1, (decH_enc t).2]
        go_wp2_with fail
        refine (implFormatInt x _ HX.out.1 HX.out.2 (hT.below hb9)).mono ?_
        rintro e w10 ⟨rfl, hb10'⟩
        have hb10 := hb9.trans (hb10'.mono hb9.size)
        clear hb9 hb10'
        have his : (⟨(Lib.itoa x).toArray⟩ : ByteArray).size ≤ 1048576 := by
          have := itoa_size x HX.out.1 HX.out.2
          show (Lib.itoa x).toArray.size ≤ _
          simp; omega
        have HIS := Lib.hid his
        clear his
        go_wp2_with fail
        refine (implParseInt _ _ HIS.out (hT.below hb10)).mono ?_
        rintro e w11 ⟨rfl, hb11'⟩
        have hb11 := hb10.trans (hb11'.mono hb10.size)
        clear hb10 hb11'
        rw [show (⟨(Lib.itoa x).toArray⟩ : ByteArray).data.toList = Lib.itoa x from rfl]
        have CF := fun W => Lib.hid (specFormatInt x W HX.out.1 HX.out.2)
        have g0 : (((encH t).length : Int) == 2 * (t.length : Int)) = true := by rw [HE2.out]; simp
        by_cases hx9 : x.natAbs < 1000000000
        · have hp := par_itoa_in hx9
          rw [hp.1, hp.2]
          have q1 : (-1000000000 : Int) < x := by omega
          have q2 : x < 1000000000 := by omega
          clear hx9 hp
          go_wp2_with (go_at_call 19; refine ((CF _).out).mono ?_; rintro e w12 ⟨rfl, hb12⟩)
          go_ret
          exact ⟨rfl, hb11.trans (hb12.mono hb11.size)⟩
        · have hp := par_itoa_out hx9
          rw [hp.1, hp.2]
          by_cases q0 : (-1000000000 : Int) < x
          · have q2 : ¬ x < 1000000000 := by omega
            have q3 : decide (x < 1000000000) = false := by simp; omega
            clear hx9 hp
            go_wp2_with (go_at_call 19; refine ((CF _).out).mono ?_; rintro e w12 ⟨rfl, hb12⟩)
            go_ret
            exact ⟨rfl, hb11.trans (hb12.mono hb11.size)⟩
          · have q3 : decide ((-1000000000 : Int) < x) = false := by simp; omega
            clear hx9 hp
            go_wp2_with (go_at_call 19; refine ((CF _).out).mono ?_; rintro e w12 ⟨rfl, hb12⟩)
            go_ret
            exact ⟨rfl, hb11.trans (hb12.mono hb11.size)⟩

end Go.Proofs.YtbimjllblaaddaaDoor.fnIntegerEncodings
