/-
  Chapter 3: a text cut at every occurrence of a byte (l2Cut), a number from 0 up (l3Num); slices of strings of the call's own.
-/
import Derived.Test.YtmojigimlhjphaaDoorCuts
import Derived.IntWalk
import Derived.Lib.IndexBytes
namespace Go.Proofs.YtmojigimlhjphaaDoor.kit
open Go.ChangeShapes Go.WideShapes Go.ChangeAt Go.RowKit
set_option linter.unusedVariables false

theorem size_mk (l : List UInt8) : (⟨l.toArray⟩ : ByteArray).size = l.length := by simp [ByteArray.size]
/-- strings as cells -/
abbrev strs (ps : List (List UInt8)) : List Value := ps.map fun p => str p
theorem infoS : (Tryd.prog.info? 9).map (fun i => (i.zero, i.size, i.bytes)) = some (some (.string ByteArray.empty), 1, 16) := by kernel_rfl
theorem ext_str (s : ByteArray) (a b : Nat) : Value.string (s.extract a b) = str ((s.data.toList.drop a).take (b - a)) := by
  unfold str
  congr 1
  apply ByteArray.ext
  apply Array.ext'
  rw [Lib.extract_data]
/-- what a row of strings says of its cells -/
theorem strs_there {base : Nat} {w : World} {v : Value} {ps : List (List UInt8)} (h : w.ownsRow base 9 1 v ps.length (strs ps)) (h0 : 0 < ps.length) :
    ∃ g cap, v = .slice (some ⟨g, 0, none⟩) ps.length cap ∧ ps.length ≤ cap ∧ cap ≤ maxLen ∧ base ≤ g ∧ g < w.heap.size ∧ ∀ j, j < ps.length → w.cell? ⟨g, j, none⟩ = some (str (ps.getD j [])) := by
  rcases h.2 with ⟨rfl, h1⟩ | ⟨g, c, cur, rfl, hg, hh, hn, hm, _⟩
  · omega
  · refine ⟨g, c, rfl, hn, hm, hg, (Array.getElem?_eq_some_iff.1 hh).1, fun j hj => ?_⟩
    rw [h.cellAt j (by omega)]
    simp [strs, List.getD, hj]

set_option maxRecDepth 100000 in
set_option maxHeartbeats 4000000 in
theorem cutEvery (s : ByteArray) (x : UInt8) (z : Int) (hz : z = x.toNat) (w : World) (hs : s.size ≤ 1048576) :
    Calls Tryd.prog 22 #[.string s, .int .u8 z] w fun e w' => ∃ v, e = .returned v ∧ w'.ownsRow w.heap.size 9 1 v (cuts x s.data.toList).length (strs (cuts x s.data.toList)) ∧ Below w.heap.size w w' := by
  have hsz : s.data.toList.length = s.size := by rw [Array.length_toList]; rfl
  have HZ := Lib.hid hsz
  have HX := Lib.hid hz
  have hx : 0 ≤ z ∧ z < 256 := by have := x.toNat_lt; omega
  clear hsz hz
  go_enter Tryd.func22, Tryd.ntmps22
  go_wp2_with fail
  go_loopw [5, 6, 7] (fun v f i wr => ∃ (k m : Nat) (done : List (List UInt8)), k ≤ s.size ∧ m ≤ k ∧ i = .int .i64 k ∧ f = .int .i64 m ∧ done.length ≤ k ∧ wr.ownsRow w.heap.size 9 1 v done.length (strs done) ∧
      Hid (cuts x s.data.toList = done ++ cuts x (s.data.toList.drop m)) ∧ Hid (x ∉ (s.data.toList.drop m).take (k - m)) ∧ Below w.heap.size w wr) (fun _ _ i _ => s.size - (intOf i).toNat)
  case atStart => exact ⟨0, 0, [], Nat.zero_le _, Nat.le_refl _, rfl, rfl, Nat.le_refl _, World.ownsRow_lit w #[] 0 (Nat.le_refl _) (Nat.zero_le _) rfl, Lib.hid (by simp), Lib.hid (by simp), (Below.refl _ _).alloc (Nat.le_refl _) _⟩
  case round =>
    obtain ⟨k, m, done, hk, hm, rfl, rfl, hdl, hown, hcut, hno, hb⟩ := hrel
    have hs0 := hb.size
    have HB := Lib.hid hb
    have HO := Lib.hid hown
    clear hb
    by_cases hlt : k < s.size
    · have hbk : s[k].toNat < 256 := s[k].toNat_lt
      have hget : s.data.toList.drop m = (s.data.toList.drop m).take (k - m) ++ s[k] :: s.data.toList.drop (k + 1) := by
        have e1 : (s.data.toList.drop m).drop (k - m) = s[k] :: s.data.toList.drop (k + 1) := by
          rw [List.drop_drop, show m + (k - m) = k by omega, List.drop_eq_getElem_cons (by rw [HZ.out]; exact hlt)]
          rfl
        rw [← e1, List.take_append_drop]
      by_cases hq : (s[k].toNat : Int) = z
      · have hxk : s[k] = x := by apply UInt8.toNat.inj; have := HX.out; omega
        have HC : Hid (cuts x s.data.toList = (done ++ [(s.data.toList.drop m).take (k - m)]) ++ cuts x (s.data.toList.drop (k + 1))) := Lib.hid (by
          rw [hcut.out, List.append_assoc]
          congr 1
          rw [hget, hxk, cuts_app hno.out]
          rw [hxk] at hget
          rw [← hget]; rfl)
        have HE := Lib.hid (ext_str s m k)
        have g1 : ((s[k].toNat : Int) == z) = true := by rw [beq_iff_eq]; exact hq
        clear hget hxk hcut hno hq HX
        go_wp2_with (at_builtin; refine wpList_push1 rfl _ _ 48 rfl w.heap.size 9 (.string ByteArray.empty) 16 Tryd.underlying48 infoS rfl _ _ _ rfl HO.out _ 1 rfl (by rfl) (by omega) (by omega) hs0 ?_; intro v' w9 hown' hb9 hg9)
        go_roundw
        case rel =>
          refine ⟨k + 1, k + 1, done ++ [(s.data.toList.drop m).take (k - m)], by omega, Nat.le_refl _, by go_num, by go_num, by simp; omega, ?_, HC, Lib.hid (by simp), HB.out.trans hb9⟩
          rw [HE.out] at hown'
          simpa [strs] using hown'
        case measure => simp [intOf]; omega
      · have hxk : x ≠ s[k] := by intro e; apply hq; rw [← e]; exact HX.out.symm
        have HN : Hid (x ∉ (s.data.toList.drop m).take (k + 1 - m)) := Lib.hid (by
          have e1 : (s.data.toList.drop m).take (k + 1 - m) = (s.data.toList.drop m).take (k - m) ++ [s[k]] := by
            rw [show k + 1 - m = (k - m) + 1 by omega]
            have hl : k - m < (s.data.toList.drop m).length := by rw [List.length_drop, HZ.out]; omega
            rw [List.take_succ_eq_append_getElem hl]
            simp [List.getElem_drop, show m + (k - m) = k by omega]
            rfl
          rw [e1]; simp [hno.out, hxk])
        have g1 : ((s[k].toNat : Int) == z) = false := by rw [beq_eq_false_iff_ne]; exact hq
        clear hget hxk hno hq HX
        go_wp2_with fail
        go_roundw
        case rel => exact ⟨k + 1, m, done, by omega, by omega, by go_num, rfl, by omega, HO.out, hcut, HN, HB.out⟩
        case measure => simp [intOf]; omega
    · obtain rfl : k = s.size := by omega
      have HC : Hid (cuts x s.data.toList = done ++ [s.data.toList.drop m]) := Lib.hid (by
        rw [hcut.out]
        have e1 : (s.data.toList.drop m).take (s.size - m) = s.data.toList.drop m := List.take_of_length_le (by rw [List.length_drop, HZ.out]; omega)
        have := hno.out
        rw [e1] at this
        rw [cuts_none this])
      have HE := Lib.hid (ext_str s m s.size)
      clear hcut hno HX
      go_wp2_with (at_builtin; refine wpList_push1 rfl _ _ 48 rfl w.heap.size 9 (.string ByteArray.empty) 16 Tryd.underlying48 infoS rfl _ _ _ rfl HO.out _ 1 rfl (by rfl) (by omega) (by omega) hs0 ?_; intro v' w9 hown' hb9 hg9)
      go_ret
      refine ⟨_, rfl, ?_, HB.out.trans hb9⟩
      rw [HE.out] at hown'
      rw [HC.out]
      have e2 : (s.data.toList.drop m).take (s.size - m) = s.data.toList.drop m := List.take_of_length_le (by rw [List.length_drop, HZ.out]; omega)
      rw [e2] at hown'
      simpa [strs] using hown'

set_option maxRecDepth 100000 in
theorem numFrom (s : ByteArray) (w : World) (hs : s.size ≤ 1048576) :
    Calls Tryd.prog 24 #[.string s] w fun e w' => e = .returned (.int .i64 (numL s.data.toList)) ∧ Below w.heap.size w w' := by
  have C1 := Lib.hid (specParseInt s w hs)
  by_cases h1 : parOk s.data.toList = true
  · by_cases h2 : 0 ≤ parN s.data.toList
    · have HE := Lib.hid (show numL s.data.toList = parN s.data.toList by unfold numL; rw [h1, decide_eq_true h2]; rfl)
      rw [h1] at C1
      generalize parN s.data.toList = n at *
      have g1 : decide (n < 0) = false := by simp; omega
      clear h1
      go_enter Tryd.func24, Tryd.ntmps24
      go_wp2_with (go_at_call 42; refine (C1.out).mono ?_; rintro e w1 ⟨rfl, hb⟩)
      go_ret
      exact ⟨by rw [HE.out]; rfl, hb⟩
    · have HE := Lib.hid (show numL s.data.toList = -1 by unfold numL; rw [h1, decide_eq_false h2]; rfl)
      rw [h1] at C1
      generalize parN s.data.toList = n at *
      have g1 : decide (n < 0) = true := by simp; omega
      clear h1
      go_enter Tryd.func24, Tryd.ntmps24
      go_wp2_with (go_at_call 42; refine (C1.out).mono ?_; rintro e w1 ⟨rfl, hb⟩)
      go_ret
      exact ⟨by rw [HE.out]; rfl, hb⟩
  · have h1 : parOk s.data.toList = false := by simpa using h1
    have HE := Lib.hid (show numL s.data.toList = -1 by unfold numL; rw [h1]; rfl)
    rw [h1] at C1
    generalize parN s.data.toList = n at *
    clear h1
    go_enter Tryd.func24, Tryd.ntmps24
    go_wp2_with (go_at_call 42; refine (C1.out).mono ?_; rintro e w1 ⟨rfl, hb⟩)
    go_ret
    exact ⟨by rw [HE.out]; rfl, hb⟩
end Go.Proofs.YtmojigimlhjphaaDoor.kit
