/-
  Chapter 1, hexadecimal digits: what impl's DecodeHex returns, for every string.
-/
import Derived.Test.YtbimjllblaaddaaDoorC1Rune
namespace Go.Proofs.YtbimjllblaaddaaDoor.kit
open Go.ChangeShapes Go.WideShapes Go.ChangeAt Go.RowKit
set_option linter.unusedVariables false

theorem own_below {w w' : World} {base : Nat} {e : TypeId} {size : Nat} {v : Value} {n : Nat} {xs : List Value} (h : w.ownsRow base e size v n xs) (hb : Below w.heap.size w w') : w'.ownsRow base e size v n xs :=
  h.kept (row := none) ⟨hb.os, hb.tape, hb.output, hb.size, fun k hk _ => hb.block k hk⟩ (by cases v.ownBlock <;> simp)
theorem own_ne_iter {w : World} {base : Nat} {e : TypeId} {size : Nat} {v : Value} {n : Nat} {xs : List Value} (h : w.ownsRow base e size v n xs) {k : Nat} {s : ByteArray} {p : Nat} (hk : w.heap[k]? = some (.stringIter s p)) : v.ownBlock ≠ some k := by
  rcases h.2 with ⟨rfl, _⟩ | ⟨g, cap, cur, rfl, _, hg, _⟩
  · simp [Value.ownBlock]
  · intro e1
    have : g = k := by simpa [Value.ownBlock] using e1
    subst this
    rw [hg] at hk
    cases hk
theorem own_iterAt {w : World} {base : Nat} {e : TypeId} {size : Nat} {v : Value} {n : Nat} {xs : List Value} (h : w.ownsRow base e size v n xs) {k : Nat} {s : ByteArray} {p : Nat} (hk : w.heap[k]? = some (.stringIter s p)) (p' : Nat) : (w.iterAt k s p').ownsRow base e size v n xs :=
  h.kept (row := some k) ⟨rfl, rfl, rfl, by rw [Lib.iterAt_size]; exact Nat.le_refl _, fun i hi hne => Lib.iterAt_other w k i s p' (fun e1 => hne (by rw [e1]))⟩ (.inr (own_ne_iter h hk))
theorem iter_grown {w w' : World} {row : Option Nat} {k : Nat} {s : ByteArray} {p : Nat} (hk : w.heap[k]? = some (.stringIter s p)) (hg : w.grownBy w' row) (hne : row ≠ some k) : w'.heap[k]? = some (.stringIter s p) :=
  (hg.block k (Array.getElem?_eq_some_iff.1 hk).1 (fun e => hne e.symm)).trans hk
theorem good_take1 {l : List UInt8} {k : Nat} (hk : k < l.length) (h : ¬ hval (l[k]).toNat < 16) : good l = false := by
  refine good_take (k := k + 1) ?_
  rw [List.take_succ_eq_append_getElem hk, good_snoc, decide_eq_false h, Bool.and_false]
set_option maxRecDepth 100000 in
theorem implDecodeHex (s : ByteArray) (w : World) (hs : s.size ≤ 1048576) :
    Calls Tryd.prog 16 #[.string s] w fun e w' => e = .returned (.tuple #[str (decHs s.data.toList), .bool (decHok s.data.toList)]) ∧ Below w.heap.size w w' := by
  have hsz : s.data.toList.length = s.size := by rw [Array.length_toList]; rfl
  have HZ := Lib.hid hsz
  clear hsz
  by_cases hodd : s.size % 2 = 1
  · have HD := Lib.hid (decH_odd (l := s.data.toList) (by rw [HZ.out]; exact hodd))
    have g1 : (((s.size : Int) % 2) != 0) = true := by simp; omega
    clear hodd
    go_enter Tryd.func16, Tryd.ntmps16
    go_wp2_with fail
    go_ret2
    exact ⟨by rw [HD.out.1, HD.out.2]; rfl, Below.refl _ _⟩
  · have HE : Hid (s.size % 2 = 0) := Lib.hid (by omega)
    have g1 : (((s.size : Int) % 2) != 0) = false := by simp; omega
    clear hodd
    have hmk : ∀ W : World, (Instr.makeSlice 22 (.int .i64 0) (.int .i64 ((s.size : Int) / 2))).run Tryd.prog W = .ok (.slice (some ⟨W.heap.size, 0, none⟩) 0 (s.size / 2)) (W.alloc (.cells (madeCells #[.int .u8 0] (s.size / 2)) 5)) := fun W => by
      obtain ⟨i0, hi, hz0, hz1, hz2⟩ := info_parts infoU8h
      have h := run_make (P := Tryd.prog) W 22 5 i0 (.int .u8 0) Tryd.underlying22 hi hz0 .i64 .i64 0 ((s.size : Int) / 2) (by omega) (by omega) (by rw [hz2]; omega) (by omega)
      have e : ((s.size : Int) / 2).toNat = s.size / 2 := by omega
      rw [e] at h
      simpa [hz1, Value.cells] using h
    go_enter Tryd.func16, Tryd.ntmps16
    go_wp2_with fail
    clear hmk
    go_loopw [4, 5] (fun v hi wr => ∃ k hn : Nat, k ≤ s.size ∧ wr.heap[w.heap.size + 1]? = some (.stringIter s k) ∧ hi = .int .i64 hn ∧ hn < 16 ∧ Hid (k % 2 = 1 → ∃ b, s.data.toList.take k = s.data.toList.take (k - 1) ++ [b] ∧ hn = hval b.toNat) ∧ Hid (good (s.data.toList.take k) = true) ∧ OwnB 5 w.heap.size wr v (dec (s.data.toList.take k)) ∧ Below w.heap.size w wr) (fun _ _ wr => s.size - wr.iterPos (w.heap.size + 1))
    case atStart =>
      have hb0 := (Below.refl w.heap.size w).alloc (Nat.le_refl _) (.cells (madeCells #[.int .u8 0] (s.size / 2)) 5)
      refine ⟨0, 0, Nat.zero_le _, ?_, rfl, by omega, Lib.hid (fun h => by omega), Lib.hid rfl, ?_, ?_⟩
      · have h := World.iter_heap (w.alloc (.cells (madeCells #[.int .u8 0] (s.size / 2)) 5)) s 0
        simpa using h
      · exact (World.ownsRow_made w _ _ (Nat.le_refl _) (by unfold maxLen; omega) (by simp [size_madeCells])).alloc _
      · exact hb0.alloc (by simp) _
    case round =>
      obtain ⟨k, hn, hk, hit, rfl, hn16, hhi, hgd, hown, hb⟩ := hrel
      have hpos : Hid (wr.iterPos (w.heap.size + 1) = k) := Lib.hid (iterPos_of hit)
      have HIT := Lib.hid hit
      clear hit
      by_cases hlt : k < s.size
      · have ht1 := Lib.hid (take_snoc s k hlt)
        by_cases ha : hval s[k].toNat < 16
        · have hlow : s[k].toNat < 128 := by
            by_cases h : s[k].toNat < 128
            · exact h
            · rw [hval_big (by omega)] at ha; omega
          have hnx := fun ty => Lib.run_next_ascii_at (P := Tryd.prog) wr (w.heap.size + 1) s k ty HIT.out hlt hlow
          have e1 := hvi_pos ha
          have c1 := fun W => indexRune_hex s[k].toNat W (by omega)
          unfold hexStr at c1
          have C1 := fun W => Lib.hid (c1 W)
          clear c1
          have hK : w.heap.size + 1 < wr.heap.size := (Array.getElem?_eq_some_iff.1 HIT.out).1
          have hgk : Hid (good (s.data.toList.take (k + 1)) = true) := Lib.hid (by rw [ht1.out, good_snoc, hgd.out, decide_eq_true ha]; rfl)
          have hitA := Lib.iterAt_heap wr (w.heap.size + 1) s k (k + 1) HIT.out
          have HITA := Lib.hid hitA
          have hownA := own_iterAt hown.row HIT.out (k + 1)
          have hbA := Lib.below_iterAt hb (show w.heap.size ≤ w.heap.size + 1 by omega) s (k + 1)
          have hKA : w.heap.size + 1 < (wr.iterAt (w.heap.size + 1) s (k + 1)).heap.size := by rw [Lib.iterAt_size]; exact hK
          clear hitA
          by_cases hev : k % 2 = 0
          · have g2 : ((k : Int) % 2 == 0) = true := by simp; omega
            have HEV := Lib.hid hev
            clear hev
            go_wp2_with (go_at_call 27; refine ((C1 _).out).mono ?_; rintro e w1 ⟨rfl, hb1⟩)
            go_roundw
            case rel =>
              refine ⟨k + 1, hval s[k].toNat, by omega, (hb1.block _ hKA).trans HITA.out, rfl, ha, Lib.hid (fun _ => ⟨s[k], by rw [ht1.out]; rfl, rfl⟩), hgk, ?_, hbA.trans (hb1.mono (by rw [Lib.iterAt_size]; exact hb.size))⟩
              have hl : (s.data.toList.take k).length % 2 = 0 := by rw [List.length_take, HZ.out, Nat.min_eq_left hk]; exact HEV.out
              rw [ht1.out, dec_one _ _ hl]
              exact own_below hownA hb1
            case measure =>
              rw [hpos.out, iterPos_of ((hb1.block _ hKA).trans HITA.out)]; omega
          · have g2 : ((k : Int) % 2 == 0) = false := by simp; omega
            obtain ⟨b0, hb0, hhn⟩ := hhi.out (by omega)
            have HB0 := Lib.hid hb0
            have HHN := Lib.hid hhn
            have HEV : Hid ((k - 1) % 2 = 0 ∧ 1 ≤ k) := Lib.hid (by omega)
            clear hev hb0 hhn
            have hol : (dec (s.data.toList.take k)).length ≤ 1048576 := by
              have := dec_length (s.data.toList.take k)
              have := List.length_take_le k s.data.toList
              omega
            go_wp2_with (first
              | (go_at_call 27; refine ((C1 _).out).mono ?_; rintro e w1 ⟨rfl, hb1⟩; have hownB := own_below hownA hb1)
              | (at_builtin; refine wpList_push1 rfl _ _ 22 rfl w.heap.size 5 (.int .u8 0) 1 Tryd.underlying22 infoU8h rfl _ _ _ rfl hownB _ 1 rfl (by rfl) (by omega) (by omega) (Nat.le_trans hbA.size hb1.size) ?_; intro v' w2 hown' hb2 hg2))
            have hitB := (hb1.block _ hKA).trans HITA.out
            have hitC := iter_grown hitB hg2 (own_ne_iter hownB hitB)
            have HITC := Lib.hid hitC
            clear hitB hitC
            go_roundw
            case rel =>
              refine ⟨k + 1, hn, by omega, HITC.out, rfl, hn16, Lib.hid (fun h => by have := HEV.out; omega), hgk, ?_, (hbA.trans (hb1.mono (by rw [Lib.iterAt_size]; exact hb.size))).trans hb2⟩
              have hl : (s.data.toList.take (k - 1)).length % 2 = 0 := by rw [List.length_take, HZ.out, Nat.min_eq_left (by omega)]; exact HEV.out.1
              have e3 : dec (s.data.toList.take k) = dec (s.data.toList.take (k - 1)) := by rw [HB0.out, dec_one _ _ hl]
              have e4 : dec (s.data.toList.take (k + 1)) = dec (s.data.toList.take k) ++ [UInt8.ofNat (16 * hval b0.toNat + hval s[k].toNat)] := by
                rw [e3, ht1.out, HB0.out, List.append_assoc]
                exact dec_two _ _ _ hl
              rw [e4]
              exact OwnB.snoc hown' (by rw [← HHN.out]; simp; omega)
            case measure =>
              rw [hpos.out, iterPos_of HITC.out]; omega
        · have hbad := Lib.hid (decH_bad (good_take1 (l := s.data.toList) (k := k) (by rw [HZ.out]; exact hlt) ha))
          have e1 := hvi_neg ha
          by_cases hlow : s[k].toNat < 128
          · have hnx := fun ty => Lib.run_next_ascii_at (P := Tryd.prog) wr (w.heap.size + 1) s k ty HIT.out hlt hlow
            have c1 := fun W => indexRune_hex s[k].toNat W (by omega)
            unfold hexStr at c1
            have C1 := fun W => Lib.hid (c1 W)
            clear c1 ha
            go_wp2_with (go_at_call 27; refine ((C1 _).out).mono ?_; rintro e w1 ⟨rfl, hb1⟩)
            go_ret2
            refine ⟨by rw [hbad.out.1, hbad.out.2]; rfl, (Lib.below_iterAt hb (by omega) s (k + 1)).trans (hb1.mono (by rw [Lib.iterAt_size]; exact hb.size))⟩
          · have hnx := fun ty => Lib.run_next_any_at (P := Tryd.prog) wr (w.heap.size + 1) s k ty HIT.out hlt
            have hd1 := (decode_high s k hlt (by omega)).1
            have hd2 := decode_le s k
            obtain ⟨d, hd⟩ : ∃ d, d = Utf8.decode s k := ⟨_, rfl⟩
            simp only [← hd] at hnx hd1 hd2
            clear hd
            have e2 := hvi_neg (n := d.1) (by rw [hval_big hd1]; omega)
            have c1 := fun W => indexRune_hex d.1 W hd2
            unfold hexStr at c1
            have C1 := fun W => Lib.hid (c1 W)
            clear c1 ha
            go_wp2_with (go_at_call 27; refine ((C1 _).out).mono ?_; rintro e w1 ⟨rfl, hb1⟩)
            go_ret2
            refine ⟨by rw [hbad.out.1, hbad.out.2]; rfl, (Lib.below_iterAt hb (by omega) s (k + d.2)).trans (hb1.mono (by rw [Lib.iterAt_size]; exact hb.size))⟩
      · obtain rfl : k = s.size := by omega
        have hnx := fun ty => Lib.run_next_end_at (P := Tryd.prog) wr (w.heap.size + 1) s s.size ty HIT.out hlt
        have hfull : s.data.toList.take s.size = s.data.toList := List.take_of_length_le (by rw [HZ.out]; omega)
        rw [hfull] at hown hgd
        clear hfull
        have HD := Lib.hid (decH_good (by rw [HZ.out]; exact HE.out) hgd.out)
        have hcv := hown.conv (dst := 9) Tryd.underlying22 Tryd.underlying5 Tryd.underlying9
        go_wp2_with fail
        go_ret2
        exact ⟨by rw [HD.out.1, HD.out.2]; rfl, hb⟩
end Go.Proofs.YtbimjllblaaddaaDoor.kit
