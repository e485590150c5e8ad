/-
  Chapter 2: how sets are read, by the specification.
-/
import Derived.Test.YtmojigimlhjphaaDoorS2Num
namespace Go.Proofs.YtmojigimlhjphaaDoor.kit
open Go.ChangeShapes Go.WideShapes Go.ChangeAt Go.RowKit
set_option linter.unusedVariables false
set_option linter.unusedSimpArgs false

theorem vals_snoc (s : ByteArray) (k : Nat) (h : k < s.size) : vals (s.data.toList.take (k + 1)) = vals (s.data.toList.take k) ++ [(s[k].toNat : Int) - 48] := by
  have hsz : s.data.toList.length = s.size := by rw [Array.length_toList]; rfl
  rw [List.take_succ_eq_append_getElem (by rw [hsz]; exact h)]
  unfold vals
  rw [List.map_append]; rfl
set_option maxRecDepth 100000 in
theorem specParseServers (s : ByteArray) (w : World) (hs : s.size ≤ 1048576) :
    Calls Tryd.prog 23 #[.string s] w fun e w' => ∃ v, e = .returned (.tuple #[v, .bool (parseSok s.data.toList)]) ∧ OwnI w.heap.size w' v (parseS s.data.toList) ∧ Below w.heap.size w w' := by
  by_cases hn : s.data.toList = [110, 111, 110, 101]
  · obtain rfl : s = ⟨#[110, 111, 110, 101]⟩ := by
      cases s with | mk d => simp at hn; rw [show d = #[110, 111, 110, 101] from Array.toList_inj.1 hn]
    go_enter Tryd.func23, Tryd.ntmps23
    go_wp2_with fail
    go_ret2
    exact ⟨_, by rw [parse_none.2]; rfl, by rw [parse_none.1]; exact World.ownsRow_lit w #[] 0 (Nat.le_refl _) (Nat.zero_le _) rfl, (Below.refl _ _).alloc (Nat.le_refl _) _⟩
  · have hne : s ≠ ⟨#[110, 111, 110, 101]⟩ := fun e => hn (by rw [e])
    have gN : (s.toList == [110, 111, 110, 101]) = false := by rw [beq_eq_false_iff_ne, ByteArray.toList_eq]; exact hn
    have hsz : s.data.toList.length = s.size := by rw [Array.length_toList]; rfl
    have HZ := Lib.hid hsz
    have HN := Lib.hid hn
    clear hn hne hsz
    go_enter Tryd.func23, Tryd.ntmps23
    go_wp2_with fail
    clear gN
    go_loopw [4, 5] (fun v i wr => ∃ k : Nat, k ≤ s.size ∧ k ≤ 6 ∧ i = .int .i64 k ∧ OwnI w.heap.size wr v (vals (s.data.toList.take k)) ∧ Below w.heap.size w wr) (fun _ i _ => s.size - (intOf i).toNat)
    case atStart => exact ⟨0, Nat.zero_le _, by omega, rfl, World.ownsRow_lit w #[] 0 (Nat.le_refl _) (Nat.zero_le _) rfl, (Below.refl _ _).alloc (Nat.le_refl _) _⟩
    case round =>
      obtain ⟨k, hk, hk6, rfl, ho, hb⟩ := hrel
      by_cases hlt : k < s.size ∧ k ≤ 5
      · obtain ⟨hlt, h5⟩ := hlt
        have HT := Lib.hid (vals_snoc s k hlt)
        have hlen : (vals (s.data.toList.take k)).length ≤ 6 := by rw [vals_length, List.length_take]; omega
        have hbk : s[k].toNat < 256 := s[k].toNat_lt
        have hw0 : IntKind.i64.wrap (s[k].toNat : Int) = s[k].toNat := IntWalk.i64_in _ (by omega)
        have hw1 : IntKind.i64.wrap ((s[k].toNat : Int) - 48) = (s[k].toNat : Int) - 48 := IntWalk.i64_in _ (by omega)
        have hown := ho.row
        have HB := Lib.hid hb
        have hs0 := hb.size
        have g5 : decide ((k : Int) ≤ 5) = true := by simp; omega
        clear ho hb
        go_wp2_with (at_builtin; refine wpList_push1 rfl _ _ 22 rfl w.heap.size 3 (.int .i64 0) 8 Tryd.underlying22 infoI rfl _ _ _ rfl hown _ 1 rfl (by rfl) (by omega) (by omega) hs0 ?_; intro v' w9 hown' hb9 hg9)
        go_roundw
        case rel => exact ⟨k + 1, by omega, by omega, by go_num, by rw [HT.out]; exact OwnI.snoc hown', HB.out.trans hb9⟩
        case measure => simp [intOf]; omega
      · have hT : s.data.toList.take k = s.data.toList.take 6 := by
          by_cases h : k < s.size
          · rw [show k = 6 by omega]
          · rw [List.take_of_length_le (by rw [HZ.out]; omega), List.take_of_length_le (by rw [HZ.out]; omega)]
        rw [hT] at ho
        clear hT
        have hlen : (vals (s.data.toList.take 6)).length ≤ 4194304 := by rw [vals_length, List.length_take]; omega
        have C1 := Lib.hid (specFormatServers _ _ _ wr hlen ho)
        have hs0 := hb.size
        have HB := Lib.hid hb
        have HO := Lib.hid ho
        have hcase : (decide (k < s.size) = false) ∨ (decide ((k : Int) ≤ 5) = false ∧ k < s.size) := by
          by_cases h : k < s.size
          · exact .inr ⟨by simp; omega, h⟩
          · exact .inl (by simp; omega)
        by_cases he : s.data.toList = []
        · have gE : (s.toList == []) = true := by rw [ByteArray.toList_eq, he]; rfl
          have HP := Lib.hid (parse_bad HN.out (show okB s.data.toList = false by rw [he]; rfl))
          have h0 : s.size = 0 := by rw [← HZ.out, he]; rfl
          have g0 : decide (k < s.size) = false := by simp; omega
          clear hcase he ho hb hlt C1 HO h0
          go_wp2_with fail
          go_ret2
          exact ⟨_, by rw [HP.out.2]; rfl, by rw [HP.out.1]; exact (World.ownsRow_lit wr #[] 0 hs0 (Nat.zero_le _) rfl), HB.out.alloc hs0 _⟩
        · have gE : (s.toList == []) = false := by rw [beq_eq_false_iff_ne, ByteArray.toList_eq]; exact he
          have HFV := Lib.hid (fmt_vals he)
          generalize hF : fmtS (vals (s.data.toList.take 6)) = F at *
          have HF := Lib.hid hF
          clear he ho hb hlt hF
          cases hq : okB s.data.toList
          · have HP := Lib.hid (parse_bad HN.out hq)
            have gQ : (F == s.toList) = false := by
              rw [beq_eq_false_iff_ne, ByteArray.toList_eq]; have h := HFV.out; rw [hq] at h; exact of_decide_eq_false h
            have gQ2 : (F != s.toList) = true := by rw [bne, gQ]; rfl
            clear hq
            rcases hcase with g0 | ⟨g0, g1⟩
            · go_wp2_with (go_at_call 17; refine (C1.out).mono ?_; rintro e w1 ⟨rfl, hb1⟩)
              go_ret2
              exact ⟨_, by rw [HP.out.2]; rfl, by rw [HP.out.1]; exact (World.ownsRow_lit w1 #[] 0 (Nat.le_trans hs0 hb1.size) (Nat.zero_le _) rfl), (HB.out.trans (hb1.mono hs0)).alloc (Nat.le_trans hs0 hb1.size) _⟩
            · go_wp2_with (go_at_call 17; refine (C1.out).mono ?_; rintro e w1 ⟨rfl, hb1⟩)
              go_ret2
              exact ⟨_, by rw [HP.out.2]; rfl, by rw [HP.out.1]; exact (World.ownsRow_lit w1 #[] 0 (Nat.le_trans hs0 hb1.size) (Nat.zero_le _) rfl), (HB.out.trans (hb1.mono hs0)).alloc (Nat.le_trans hs0 hb1.size) _⟩
          · have HP := Lib.hid (parse_good HN.out hq)
            have gQ : (F == s.toList) = true := by
              rw [beq_iff_eq, ByteArray.toList_eq]; have h := HFV.out; rw [hq] at h; exact of_decide_eq_true h
            have gQ2 : (F != s.toList) = false := by rw [bne, gQ]; rfl
            have HT := Lib.hid (show s.data.toList.take 6 = s.data.toList from List.take_of_length_le (by have := okB_len hq; omega))
            clear hq
            rcases hcase with g0 | ⟨g0, g1⟩
            · go_wp2_with (go_at_call 17; refine (C1.out).mono ?_; rintro e w1 ⟨rfl, hb1⟩)
              go_ret2
              exact ⟨_, by rw [HP.out.2]; rfl, by have h := HO.out.later hb1; rw [HT.out] at h; rw [HP.out.1]; exact h, HB.out.trans (hb1.mono hs0)⟩
            · go_wp2_with (go_at_call 17; refine (C1.out).mono ?_; rintro e w1 ⟨rfl, hb1⟩)
              go_ret2
              exact ⟨_, by rw [HP.out.2]; rfl, by have h := HO.out.later hb1; rw [HT.out] at h; rw [HP.out.1]; exact h, HB.out.trans (hb1.mono hs0)⟩
end Go.Proofs.YtmojigimlhjphaaDoor.kit
