/-
  Chapter 2: how sets are read, by the program: a set of bits, filled digit by digit, then its numbers.
-/
import Derived.Test.YtmojigimlhjphaaDoorS2Num
import Derived.Test.YtmojigimlhjphaaDoorS2Bits
import Derived.Test.YtmojigimlhjphaaDoorS2Parse
import Derived.Test.YtmojigimlhjphaaDoorC1DecHexImpl
namespace Go.Proofs.YtmojigimlhjphaaDoor.kit
open Go.ChangeShapes Go.WideShapes Go.ChangeAt Go.RowKit
set_option linter.unusedVariables false
set_option linter.unusedSimpArgs false

theorem rowIs_of_heap {w w' : World} {b : Nat} {t : TypeId} {n : Nat} {f : Nat → Value} (h : w.rowIs b t n f) (he : w'.heap[b]? = w.heap[b]?) : w'.rowIs b t n f := by
  unfold World.rowIs at *; rw [he]; exact h
theorem bits_nil {m : Nat} (hm : m < 32) : (bitsOf m = []) ↔ m = 0 := by
  have h : ∀ m : Nat, m < 32 → ((bitsOf m = []) ↔ m = 0) := by decide +kernel
  exact h m hm
set_option maxRecDepth 100000 in
theorem implParseServers (s : ByteArray) (w : World) (hs : s.size ≤ 1048576) :
    Calls Tryd.prog 27 #[.string s] w fun e w' => ∃ v, e = .returned (.tuple #[v, .bool (parseSok s.data.toList)]) ∧ OwnI w.heap.size w' v (parseS s.data.toList) ∧ Below w.heap.size w w' := by
  by_cases hn : s.data.toList = [110, 111, 110, 101]
  · obtain rfl : s = ⟨#[110, 111, 110, 101]⟩ := by
      cases s with | mk d => simp at hn; rw [show d = #[110, 111, 110, 101] from Array.toList_inj.1 hn]
    go_enter Tryd.func27, Tryd.ntmps27
    go_wp2_with fail
    go_ret2
    exact ⟨_, by rw [parse_none.2]; rfl, by rw [parse_none.1]; exact World.ownsRow_nil _ _ _ _, Below.refl _ _⟩
  · have gN : (s.toList == [110, 111, 110, 101]) = false := by rw [beq_eq_false_iff_ne, ByteArray.toList_eq]; exact hn
    have hsz : s.data.toList.length = s.size := by rw [Array.length_toList]; rfl
    have HZ := Lib.hid hsz
    have HN := Lib.hid hn
    clear hn hsz
    go_enter Tryd.func27, Tryd.ntmps27
    go_wp2_with fail
    clear gN
    go_loopw [6] (fun r wr => ∃ k m : Nat, k ≤ s.size ∧ wr.heap[w.heap.size + 1]? = some (.stringIter s k) ∧ m < 32 ∧ Hid (vals (s.data.toList.take k) = bitsOf m) ∧ wr.rowIs w.heap.size 41 1 (fun _ => .int .u8 m) ∧ Below w.heap.size w wr) (fun _ wr => s.size - wr.iterPos (w.heap.size + 1))
    case atStart =>
      refine ⟨0, 0, Nat.zero_le _, ?_, by omega, Lib.hid rfl, ?_, ((Below.refl w.heap.size w).alloc (Nat.le_refl _) _).alloc (by simp) _⟩
      · have h := World.iter_heap (w.alloc (.cells #[.int .u8 0] 41)) s 0
        simpa using h
      · exact rowIs_of_heap (one_row w _ _) (Below.heap_alloc (w.alloc (.cells #[.int .u8 0] 41)) (.stringIter s 0) w.heap.size (by simp))
    case round =>
      obtain ⟨k, m, hk, hit, hm, HE, hrow, hb⟩ := hrel
      have hpos : Hid (wr.iterPos (w.heap.size + 1) = k) := Lib.hid (iterPos_of hit)
      have HIT := Lib.hid hit
      clear hit
      by_cases hlt : k < s.size
      · have HVG := Lib.hid (vals_get s.data.toList k (by rw [HZ.out]; exact hlt))
        have HVS := Lib.hid (vals_snoc s k hlt)
        have hlast := last_take (vals s.data.toList) k (by rw [vals_length, HZ.out]; omega)
        rw [← vals_take, HE.out] at hlast
        have HLAST := Lib.hid hlast
        clear hlast
        by_cases hlow : s[k].toNat < 128
        · have hnx := fun ty => Lib.run_next_ascii_at (P := Tryd.prog) wr (w.heap.size + 1) s k ty HIT.out hlt hlow
          have HITA := Lib.hid (Lib.iterAt_heap wr (w.heap.size + 1) s k (k + 1) HIT.out)
          have hrowA := rowIs_of_heap hrow (Lib.iterAt_other wr (w.heap.size + 1) w.heap.size s (k + 1) (by omega))
          have HBA := Lib.hid (Lib.below_iterAt hb (show w.heap.size ≤ w.heap.size + 1 by omega) s (k + 1))
          have hcell := hrowA.cell (i := 0) (by omega)
          have hfr := hrowA.frozen 0
          have HR := Lib.hid hrowA
          have hx1 : IntKind.i32.wrap ((s[k].toNat : Int) - 48) = (s[k].toNat : Int) - 48 := IntWalk.i32_in _ (by omega)
          have hx2 : IntKind.i64.wrap ((s[k].toNat : Int) - 48) = (s[k].toNat : Int) - 48 := IntWalk.i64_in _ (by omega)
          clear hrow hb hrowA
          by_cases hin : 0 ≤ (s[k].toNat : Int) - 48 ∧ (s[k].toNat : Int) - 48 < 5
          · obtain ⟨id, hid⟩ := Int.eq_ofNat_of_zero_le hin.1
            have h5 : id < 5 := by omega
            by_cases h0 : m / 2 ^ id = 0
            · have C1 := Lib.hid (add_yes ⟨w.heap.size, 0, none⟩ id m (wr.iterAt (w.heap.size + 1) s (k + 1)) h5 hcell hfr h0 hm)
              obtain ⟨b1, b2, b3⟩ := bits_add hm h5 h0
              have HE2 := Lib.hid (show vals (s.data.toList.take (k + 1)) = bitsOf (m ||| 2 ^ id) by rw [HVS.out, HE.out, b1, hid])
              rw [hid] at hx1 hx2
              have HID := Lib.hid hid
              clear b1 b3 h0 hid hin hcell hfr
              go_wp2_with (first | (rw [HID.out]) | (go_at_call 45; refine (C1.out).mono ?_; rintro e w1 ⟨rfl, rfl⟩))
              have hit2 : (((wr.iterAt (w.heap.size + 1) s (k + 1)).setCell ⟨w.heap.size, 0, none⟩ (.int .u8 ((m ||| 2 ^ id : Nat) : Int))).drew).heap[w.heap.size + 1]? = some (.stringIter s (k + 1)) := (Below.heap_setCell _ _ _ _ (by simp)).trans HITA.out
              have HIT2 := Lib.hid hit2
              clear hit2
              go_roundw
              case rel => exact ⟨k + 1, m ||| 2 ^ id, by omega, HIT2.out, b2, HE2, ((HR.out.set 0 _).drew).congr one_eq, (HBA.out.setCell (Nat.le_refl _) _).drew⟩
              case measure => rw [hpos.out, iterPos_of HIT2.out]; omega
            · have C1 := Lib.hid (add_not ⟨w.heap.size, 0, none⟩ id m (wr.iterAt (w.heap.size + 1) s (k + 1)) h5 hcell (Nat.pos_of_ne_zero h0))
              have HP := Lib.hid (parse_bad HN.out (okB_bad (i := k) (by rw [HZ.out]; exact hlt) (decide_eq_false (fun h => by
                have b := bits_not hm h5 (Nat.pos_of_ne_zero h0)
                have hv : (vals s.data.toList).getD k 0 = (s[k].toNat : Int) - 48 := HVG.out
                rw [HLAST.out] at b
                split at b
                · omega
                · have := h.2.2 (by omega); omega))))
              rw [hid] at hx1 hx2
              have HID := Lib.hid hid
              clear h0 hid hin hcell hfr
              go_wp2_with (first | (rw [HID.out]) | (go_at_call 45; refine (C1.out).mono ?_; rintro e w1 ⟨rfl, rfl⟩))
              go_ret2
              exact ⟨_, by rw [HP.out.2]; rfl, by rw [HP.out.1]; exact World.ownsRow_nil _ _ _ _, HBA.out⟩
          · have C1 := Lib.hid (add_out ⟨w.heap.size, 0, none⟩ ((s[k].toNat : Int) - 48) m (wr.iterAt (w.heap.size + 1) s (k + 1)) (by omega))
            have HP := Lib.hid (parse_bad HN.out (okB_bad (i := k) (by rw [HZ.out]; exact hlt) (decide_eq_false (fun h => by
              have hv : (vals s.data.toList).getD k 0 = (s[k].toNat : Int) - 48 := HVG.out
              omega))))
            clear hin hcell hfr
            go_wp2_with (go_at_call 45; refine (C1.out).mono ?_; rintro e w1 ⟨rfl, rfl⟩)
            go_ret2
            exact ⟨_, by rw [HP.out.2]; rfl, by rw [HP.out.1]; exact World.ownsRow_nil _ _ _ _, HBA.out⟩
        · have hnx := fun ty => Lib.run_next_any_at (P := Tryd.prog) wr (w.heap.size + 1) s k ty HIT.out hlt
          have hd1 := (decode_high s k hlt (by omega)).1
          have hd2 := decode_le s k
          have HBA := fun d => Lib.hid (Lib.below_iterAt hb (show w.heap.size ≤ w.heap.size + 1 by omega) s (k + d))
          have HP := Lib.hid (parse_bad HN.out (okB_bad (i := k) (by rw [HZ.out]; exact hlt) (decide_eq_false (fun h => by
            have hv : (vals s.data.toList).getD k 0 = (s[k].toNat : Int) - 48 := HVG.out
            omega))))
          obtain ⟨d, hd⟩ : ∃ d, d = Utf8.decode s k := ⟨_, rfl⟩
          simp only [← hd] at hnx hd1 hd2
          clear hd
          have C1 := Lib.hid (add_out ⟨w.heap.size, 0, none⟩ ((d.1 : Int) - 48) m (wr.iterAt (w.heap.size + 1) s (k + d.2)) (by omega))
          have hx1 : IntKind.i32.wrap ((d.1 : Int) - 48) = (d.1 : Int) - 48 := IntWalk.i32_in _ (by omega)
          have hx2 : IntKind.i64.wrap ((d.1 : Int) - 48) = (d.1 : Int) - 48 := IntWalk.i64_in _ (by omega)
          clear hrow hb
          go_wp2_with (go_at_call 45; refine (C1.out).mono ?_; rintro e w1 ⟨rfl, rfl⟩)
          go_ret2
          exact ⟨_, by rw [HP.out.2]; rfl, by rw [HP.out.1]; exact World.ownsRow_nil _ _ _ _, (HBA _).out⟩
      · obtain rfl : k = s.size := by omega
        have hnx := fun ty => Lib.run_next_end_at (P := Tryd.prog) wr (w.heap.size + 1) s s.size ty HIT.out hlt
        have hfull : s.data.toList.take s.size = s.data.toList := List.take_of_length_le (by rw [HZ.out]; omega)
        rw [hfull] at HE
        have hcell := hrow.cell (i := 0) (by omega)
        by_cases h0 : m = 0
        · subst h0
          have HP := Lib.hid (parse_bad HN.out (show okB s.data.toList = false by
            have h1 : vals s.data.toList = [] := HE.out.trans ((bits_nil (by omega)).2 rfl)
            have h2 : s.data.toList = [] := by have := congrArg List.length h1; rw [vals_length] at this; exact List.eq_nil_of_length_eq_zero this
            rw [h2]; rfl))
          have HB := Lib.hid hb
          clear hrow hb hfull
          go_wp2_with fail
          go_ret2
          exact ⟨_, by rw [HP.out.2]; rfl, by rw [HP.out.1]; exact World.ownsRow_nil _ _ _ _, HB.out⟩
        · have HP := Lib.hid (parse_good HN.out (show okB s.data.toList = true by
            have h2 : s.data.toList ≠ [] := fun e => h0 ((bits_nil hm).1 (by rw [← HE.out, e]; rfl))
            unfold okB; rw [HE.out, bits_are hm, decide_eq_true h2]; rfl))
          have g0 : ((m : Int) == 0) = false := by rw [beq_eq_false_iff_ne]; omega
          have HB := Lib.hid hb
          have hz := hb.size
          have C1 := Lib.hid (fun W => implNumbers m W hm)
          clear hrow hb hfull
          go_wp2_with (go_at_call 40; refine (C1.out _).mono ?_; rintro e w1 ⟨v, rfl, ho, hb1⟩)
          go_ret2
          exact ⟨_, by rw [HP.out.2]; rfl, by rw [HP.out.1, HE.out]; exact ho.mono hz, HB.out.trans (hb1.mono hz)⟩
end Go.Proofs.YtmojigimlhjphaaDoor.kit
