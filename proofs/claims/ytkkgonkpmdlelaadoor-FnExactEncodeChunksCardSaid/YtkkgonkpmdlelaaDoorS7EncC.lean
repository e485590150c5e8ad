/-
  Chapter 7: what spec's and impl's EncodeChunks return.
-/
import Derived.Test.YtkkgonkpmdlelaaDoorS7Chunk
import Derived.IntWalk
namespace Go.Proofs.YtkkgonkpmdlelaaDoor.kit
open Go.ChangeShapes Go.WideShapes Go.ChangeAt Go.RowKit
set_option linter.unusedVariables false

theorem range_snoc {α : Type} (f : Nat → α) (k : Nat) : (List.range (k + 1)).map f = (List.range k).map f ++ [f k] := by simp [List.range_succ]
theorem extL (s : ByteArray) (a b : Nat) : (s.extract a b).data.toList = (s.data.toList.drop a).take (b - a) := Lib.extract_data s a b
theorem part_ext (s : ByteArray) (p z e : Nat) (h : p ≤ s.size) (he : e = min s.size (p + min z s.size)) : (s.extract p e).data.toList = (s.data.toList.drop p).take z := by
  rw [extL, he]
  have hl := toL_len s
  by_cases h1 : z ≤ s.size - p
  · rw [show min s.size (p + min z s.size) - p = z by omega]
  · rw [show min s.size (p + min z s.size) - p = s.size - p by omega, List.take_of_length_le (by rw [List.length_drop]; omega), List.take_of_length_le (by rw [List.length_drop]; omega)]
set_option maxRecDepth 100000 in
set_option maxHeartbeats 4000000 in
theorem specEncodeChunks (s : ByteArray) (z : Int) (w : World) (hs : s.size ≤ 1048576) :
    Calls Tryd.prog 29 #[.string s, .int .i64 z] w fun e w' => ∃ v, e = .returned v ∧ OwnW w.heap.size w' v (encCh s.data.toList z) ∧ Below w.heap.size w w' := by
  have hsl := toL_len s
  by_cases h1 : z < 1
  · have HF := Lib.hid (encCh_none (s := s.data.toList) (.inl h1))
    have g1 : decide (z < 1) = true := decide_eq_true h1
    clear h1
    go_enter Tryd.func29, Tryd.ntmps29
    go_wp2_with fail
    go_ret
    refine ⟨_, rfl, ?_, (Below.refl _ _).alloc (Nat.le_refl _) _⟩
    rw [HF.out]
    exact World.ownsRow_lit w #[] 0 (Nat.le_refl _) (Nat.zero_le _) rfl
  · obtain ⟨zN, rfl⟩ := Int.eq_ofNat_of_zero_le (show 0 ≤ z by omega)
    have hz1 : 1 ≤ zN := by omega
    have g1 : decide ((zN : Int) < 1) = false := decide_eq_false h1
    clear h1
    by_cases h2 : s.size ≤ zN
    · have g2 : decide ((zN : Int) ≥ (s.size : Int)) = true := decide_eq_true (by omega)
      have HF := Lib.hid (encCh_some (s := s.data.toList) (size := zN) (by omega) (by rw [partsN_big (by omega) (by omega)]; omega))
      obtain ⟨t, ht⟩ : ∃ t, t = partsN s.size zN := ⟨_, rfl⟩
      have ht1 : t = 1 := by rw [ht]; exact partsN_big (by omega) (by omega)
      rw [hsl, ← ht] at HF
      have HT := Lib.hid ht.symm
      clear ht
      go_enter Tryd.func29, Tryd.ntmps29
      go_wp2_with fail
      go_loopw [5, 7] (fun v i wr => ∃ k : Nat, k ≤ t ∧ i = .int .i64 k ∧ OwnW w.heap.size wr v ((List.range k).map (chunkB s.data.toList zN t)) ∧ Below w.heap.size w wr) (fun _ i _ => t - (intOf i).toNat)
      case atStart => exact ⟨0, Nat.zero_le _, rfl, World.ownsRow_lit w #[] 0 (Nat.le_refl _) (Nat.zero_le _) rfl, (Below.refl _ _).alloc (Nat.le_refl _) _⟩
      case round =>
        obtain ⟨k, hk, rfl, hown, hb⟩ := hrel
        by_cases hlt : k < t
        · skip
          have HO := Lib.hid hown
          have HB := Lib.hid hb
          have hsz0 := hb.size
          have hrl : ((List.range k).map (chunkB s.data.toList zN t)).length = k := by simp
          have HRL := Lib.hid hrl
          have hpl : k * zN ≤ s.size := part_at (len := s.size) hz1 (by rw [HT.out]; exact hlt)
          obtain ⟨p, hp⟩ : ∃ p, p = k * zN := ⟨_, rfl⟩
          rw [← hp] at hpl
          have hpi : (k : Int) * (zN : Int) = (p : Int) := by rw [hp]; simp
          have HP := Lib.hid hp
          obtain ⟨e, he⟩ : ∃ e, e = min s.size (p + min zN s.size) := ⟨_, rfl⟩
          have hpe := part_ext s p zN e hpl he
          have hes : (s.extract p e).size ≤ 1048576 := by rw [ByteArray.size_extract]; omega
          have hce : chunkB s.data.toList zN t k = ⟨(chunkL k t (s.extract p e).data.toList).toArray⟩ := by
            unfold chunkB partL
            rw [← hp, hpe]
          have HCE := Lib.hid hce
          have J := Lib.hid (fun W => specChunk (k : Int) (t : Int) (s.extract p e) W (by omega) (by omega) (by omega) (by omega) hes)
          clear hown hb hp hpe hce hrl hes
          obtain rfl : k = 0 := by omega
          obtain rfl : p = 0 := by rw [HP.out]; omega
          subst ht1
          have hmin : (min (s.size : Int) (zN : Int)).toNat = e := by omega
          have HMIN := Lib.hid hmin
          clear he hmin hpl hpi
          go_wp2_with fail
          rw [HMIN.out]
          refine (J.out _).mono ?_
          rintro e1 w1 ⟨rfl, hb1⟩
          have hO1 := (HO.out.later hb1).row
          rw [HRL.out] at hO1
          have HO1 := Lib.hid hO1
          have hs1 : w.heap.size ≤ w1.heap.size := Nat.le_trans hsz0 hb1.size
          have HB1 := Lib.hid (HB.out.trans (hb1.mono hsz0))
          clear hO1 hb1 J HO HB
          go_wp2_with (at_builtin; refine wpList_push1 rfl _ _ 51 rfl w.heap.size 9 (.string ByteArray.empty) 16 Tryd.underlying51 infoW rfl _ _ _ rfl HO1.out _ 1 rfl (by rfl) (by omega) (by omega) hs1 ?_; intro v' w9 hown' hb9 hg9)
          go_roundw
          case rel =>
            refine ⟨1, Nat.le_refl _, rfl, ?_, HB1.out.trans hb9⟩
            rw [range_snoc, HCE.out]
            exact OwnW.of hown' (by simp)
          case measure => simp [intOf]
        · obtain rfl : k = t := by omega
          have HO := Lib.hid hown
          clear hlt hk hown
          subst ht1
          go_wp2_with fail
          go_ret
          exact ⟨_, rfl, by rw [HF.out]; exact HO.out, hb⟩
    · have g2 : decide ((zN : Int) ≥ (s.size : Int)) = false := decide_eq_false (by omega)
      have hsum : ((s.size : Int) + (zN : Int) - 1).tdiv (zN : Int) = ((partsN s.size zN : Nat) : Int) := by
        rw [← partsN_eq (by omega) hz1, show (s.size : Int) + (zN : Int) - 1 = ((s.size + zN - 1 : Nat) : Int) by omega]
        rfl
      have hw1 : IntKind.i64.wrap ((s.size : Int) + (zN : Int)) = (s.size : Int) + (zN : Int) := IntWalk.i64_in _ (by omega)
      have hw2 : IntKind.i64.wrap ((s.size : Int) + (zN : Int) - 1) = (s.size : Int) + (zN : Int) - 1 := IntWalk.i64_in _ (by omega)
      have htl : partsN s.size zN ≤ s.size := by
        unfold partsN
        have := Nat.div_le_self (s.size - 1) zN
        omega
      have ht0 := partsN_pos s.size zN
      have HF1 := Lib.hid (fun (h : partsN s.size zN ≤ 40) => encCh_some (s := s.data.toList) (size := zN) (by omega) (by rw [hsl]; exact h))
      have HF0 := Lib.hid (fun (h : 40 < partsN s.size zN) => encCh_none (s := s.data.toList) (size := (zN : Int)) (.inr (by rw [hsl]; exact h)))
      rw [hsl] at HF1
      obtain ⟨t, ht⟩ : ∃ t, partsN s.size zN = t := ⟨_, rfl⟩
      rw [ht] at hsum htl HF1 HF0 ht0
      have HT := Lib.hid ht
      clear ht
      have hmx : max (1 : Int) (t : Int) = (t : Int) := by omega
      by_cases h3 : 40 < t
      · have g3 : decide ((t : Int) > 40) = true := decide_eq_true (by omega)
        go_enter Tryd.func29, Tryd.ntmps29
        go_wp2_with fail
        go_ret
        refine ⟨_, rfl, ?_, (Below.refl _ _).alloc (Nat.le_refl _) _⟩
        rw [HF0.out h3]
        exact World.ownsRow_lit w #[] 0 (Nat.le_refl _) (Nat.zero_le _) rfl
      · have g3 : decide ((t : Int) > 40) = false := decide_eq_false (by omega)
        have HF := Lib.hid (HF1.out (by omega))
        clear HF1 HF0
        go_enter Tryd.func29, Tryd.ntmps29
        go_wp2_with fail
        clear hw1 hw2 hsum hmx g1 g2 g3
        go_loopw [5, 7] (fun v i wr => ∃ k : Nat, k ≤ t ∧ i = .int .i64 k ∧ OwnW w.heap.size wr v ((List.range k).map (chunkB s.data.toList zN t)) ∧ Below w.heap.size w wr) (fun _ i _ => t - (intOf i).toNat)
        case atStart => exact ⟨0, Nat.zero_le _, rfl, World.ownsRow_lit w #[] 0 (Nat.le_refl _) (Nat.zero_le _) rfl, (Below.refl _ _).alloc (Nat.le_refl _) _⟩
        case round =>
          obtain ⟨k, hk, rfl, hown, hb⟩ := hrel
          by_cases hlt : k < t
          · skip
            have htt := HT.out
            have HO := Lib.hid hown
            have HB := Lib.hid hb
            have hsz0 := hb.size
            have hrl : ((List.range k).map (chunkB s.data.toList zN t)).length = k := by simp
            have HRL := Lib.hid hrl
            have hpl : k * zN ≤ s.size := part_at (len := s.size) hz1 (by rw [HT.out]; exact hlt)
            obtain ⟨p, hp⟩ : ∃ p, p = k * zN := ⟨_, rfl⟩
            rw [← hp] at hpl
            have hpi : (k : Int) * (zN : Int) = (p : Int) := by rw [hp]; simp
            have HP := Lib.hid hp
            obtain ⟨e, he⟩ : ∃ e, e = min s.size (p + min zN s.size) := ⟨_, rfl⟩
            have hpe := part_ext s p zN e hpl he
            have hes : (s.extract p e).size ≤ 1048576 := by rw [ByteArray.size_extract]; omega
            have hce : chunkB s.data.toList zN t k = ⟨(chunkL k t (s.extract p e).data.toList).toArray⟩ := by
              unfold chunkB partL
              rw [← hp, hpe]
            have HCE := Lib.hid hce
            have J := Lib.hid (fun W => specChunk (k : Int) (t : Int) (s.extract p e) W (by omega) (by omega) (by omega) (by omega) hes)
            clear hown hb hp hpe hce hrl hes
            have hmin : (min (s.size : Int) ((p : Int) + min (zN : Int) (s.size : Int))).toNat = e := by omega
            have HMIN := Lib.hid hmin
            have hpw : IntKind.i64.wrap (p : Int) = (p : Int) := IntWalk.i64_in _ (by omega)
            clear hmin he htt
            go_wp2_with fail
            rw [HMIN.out]
            refine (J.out _).mono ?_
            rintro e1 w1 ⟨rfl, hb1⟩
            have hO1 := (HO.out.later hb1).row
            rw [HRL.out] at hO1
            have HO1 := Lib.hid hO1
            have hs1 : w.heap.size ≤ w1.heap.size := Nat.le_trans hsz0 hb1.size
            have HB1 := Lib.hid (HB.out.trans (hb1.mono hsz0))
            clear hO1 hb1 J HO HB
            go_wp2_with (at_builtin; refine wpList_push1 rfl _ _ 51 rfl w.heap.size 9 (.string ByteArray.empty) 16 Tryd.underlying51 infoW rfl _ _ _ rfl HO1.out _ 1 rfl (by rfl) (by omega) (by omega) hs1 ?_; intro v' w9 hown' hb9 hg9)
            go_roundw
            case rel =>
              refine ⟨k + 1, by omega, by go_num, ?_, HB1.out.trans hb9⟩
              rw [range_snoc, HCE.out]
              exact OwnW.of hown' (by simp)
            case measure => simp [intOf]; omega
          · obtain rfl : k = t := by omega
            have HO := Lib.hid hown
            clear hlt hk hown
            go_wp2_with fail
            go_ret
            exact ⟨_, rfl, by rw [HF.out]; exact HO.out, hb⟩
set_option maxRecDepth 100000 in
set_option maxHeartbeats 4000000 in
theorem implEncodeChunks (s : ByteArray) (z : Int) (w : World) (hs : s.size ≤ 1048576) (hT : Tab w) :
    Calls Tryd.prog 30 #[.string s, .int .i64 z] w fun e w' => ∃ v, e = .returned v ∧ OwnW w.heap.size w' v (encCh s.data.toList z) ∧ Below w.heap.size w w' := by
  have hsl := toL_len s
  have HTB := Lib.hid hT
  clear hT
  by_cases h1 : z < 1
  · have HF := Lib.hid (encCh_none (s := s.data.toList) (.inl h1))
    have g1 : decide (z < 1) = true := decide_eq_true h1
    clear h1
    go_enter Tryd.func30, Tryd.ntmps30
    go_wp2_with fail
    go_ret
    refine ⟨_, rfl, ?_, Below.refl _ _⟩
    rw [HF.out]
    exact World.ownsRow_nil _ _ _ _
  · obtain ⟨zN, rfl⟩ := Int.eq_ofNat_of_zero_le (show 0 ≤ z by omega)
    have hz1 : 1 ≤ zN := by omega
    have g1 : decide ((zN : Int) < 1) = false := decide_eq_false h1
    clear h1
    have ht0 := partsN_pos s.size zN
    have htl : partsN s.size zN ≤ 1 + s.size := by
      unfold partsN
      have := Nat.div_le_self (s.size - 1) zN
      omega
    have hsum : (max ((s.size : Int) - 1) 0).tdiv (zN : Int) = ((partsN s.size zN : Nat) : Int) - 1 := by
      rw [show max ((s.size : Int) - 1) 0 = ((s.size - 1 : Nat) : Int) by omega]
      unfold partsN
      rw [show (((1 + (s.size - 1) / zN : Nat) : Int) - 1) = (((s.size - 1) / zN : Nat) : Int) by omega]
      rfl
    have HF1 := Lib.hid (fun (h : partsN s.size zN ≤ 40) => encCh_some (s := s.data.toList) (size := zN) (by omega) (by rw [hsl]; exact h))
    have HF0 := Lib.hid (fun (h : 40 < partsN s.size zN) => encCh_none (s := s.data.toList) (size := (zN : Int)) (.inr (by rw [hsl]; exact h)))
    rw [hsl] at HF1
    obtain ⟨t, ht⟩ : ∃ t, partsN s.size zN = t := ⟨_, rfl⟩
    rw [ht] at hsum htl HF1 HF0 ht0
    have HT := Lib.hid ht
    clear ht
    have hw1 : IntKind.i64.wrap ((t : Int) - 1) = (t : Int) - 1 := IntWalk.i64_in _ (by omega)
    have hw2 : IntKind.i64.wrap (1 + ((t : Int) - 1)) = (t : Int) := by rw [show 1 + ((t : Int) - 1) = (t : Int) by omega]; exact IntWalk.i64_in _ (by omega)
    by_cases h3 : 40 < t
    · have g3 : decide ((t : Int) > 40) = true := decide_eq_true (by omega)
      go_enter Tryd.func30, Tryd.ntmps30
      go_wp2_with fail
      go_ret
      refine ⟨_, rfl, ?_, Below.refl _ _⟩
      rw [HF0.out h3]
      exact World.ownsRow_nil _ _ _ _
    · have g3 : decide ((t : Int) > 40) = false := decide_eq_false (by omega)
      have HF := Lib.hid (HF1.out (by omega))
      clear HF1 HF0
      have hmk : ∀ W : World, (Instr.makeSlice 51 (.int .i64 0) (.int .i64 (t : Int))).run Tryd.prog W = .ok (.slice (some ⟨W.heap.size, 0, none⟩) 0 t) (W.alloc (.cells (madeCells #[.string ByteArray.empty] t) 9)) := fun W => by
        obtain ⟨i0, hi, hz0, hz1, hz2⟩ := info_parts infoW
        have h := run_make (P := Tryd.prog) W 51 9 i0 (.string ByteArray.empty) Tryd.underlying51 hi hz0 .i64 .i64 0 (t : Int) (by omega) (by omega) (by rw [hz2]; omega) (by omega)
        simpa [hz1, Value.cells] using h
      go_enter Tryd.func30, Tryd.ntmps30
      go_wp2_with fail
      clear hmk hw1 hw2 g1 g3 hsum
      go_loopw [0, 6, 23] (fun sv v i wr => ∃ (k : Nat) (b : ByteArray), k ≤ t ∧ i = .int .i64 k ∧ sv = .string b ∧ Hid (b.data.toList = s.data.toList.drop (k * zN)) ∧ OwnW w.heap.size wr v ((List.range k).map (chunkB s.data.toList zN t)) ∧ Below w.heap.size w wr) (fun _ _ i _ => t - (intOf i).toNat)
      case atStart => exact ⟨0, s, Nat.zero_le _, rfl, rfl, Lib.hid (by simp), World.ownsRow_made w _ _ (Nat.le_refl _) (by unfold maxLen; omega) (by simp [size_madeCells]), (Below.refl _ _).alloc (Nat.le_refl _) _⟩
      case round =>
        obtain ⟨k, b, hk, rfl, rfl, HBL, hown, hb⟩ := hrel
        by_cases hlt : k < t
        · have HO := Lib.hid hown
          have HB := Lib.hid hb
          have hsz0 := hb.size
          have HRL := Lib.hid (show ((List.range k).map (chunkB s.data.toList zN t)).length = k by simp)
          have hpl : k * zN ≤ s.size := part_at (len := s.size) hz1 (by rw [HT.out]; exact hlt)
          have hbs : b.size ≤ s.size := by
            have h1 := congrArg List.length HBL.out
            rw [toL_len, List.length_drop, hsl] at h1
            omega
          obtain ⟨e, he⟩ : ∃ e, e = min zN b.size := ⟨_, rfl⟩
          have hpe : (b.extract 0 e).data.toList = partL s.data.toList zN k := by
            rw [extL, HBL.out]
            unfold partL
            rw [List.drop_zero, he, Nat.sub_zero]
            have h1 := congrArg List.length HBL.out
            rw [toL_len] at h1
            by_cases h2 : zN ≤ b.size
            · rw [Nat.min_eq_left h2]
            · rw [Nat.min_eq_right (by omega), List.take_of_length_le (by omega), List.take_of_length_le (by omega)]
          have hnx : (b.extract e b.size).data.toList = s.data.toList.drop ((k + 1) * zN) := by
            rw [extL, HBL.out, List.drop_drop]
            have h1 := congrArg List.length HBL.out
            rw [toL_len, List.length_drop, hsl] at h1
            rw [List.take_of_length_le (by rw [List.length_drop, hsl]; omega), Nat.add_mul, Nat.one_mul]
            by_cases h2 : zN ≤ b.size
            · rw [he, Nat.min_eq_left h2]
            · rw [List.drop_eq_nil_of_le (by rw [hsl]; omega), List.drop_eq_nil_of_le (by rw [hsl]; omega)]
          have hes : (b.extract 0 e).size ≤ 1048576 := by rw [ByteArray.size_extract]; omega
          have hesz : (b.extract 0 e).size = e := by rw [ByteArray.size_extract]; omega
          have hce : chunkB s.data.toList zN t k = ⟨(chunkL k t (b.extract 0 e).data.toList).toArray⟩ := by
            unfold chunkB
            rw [hpe]
          have HCE := Lib.hid hce
          have HNX := Lib.hid hnx
          have J := Lib.hid (fun W hW => implChunk (k : Int) (t : Int) (b.extract 0 e) W (by omega) (by omega) (by omega) (by omega) hes (HTB.out.below hW))
          have hmin : (min (zN : Int) (b.size : Int)).toNat = e := by omega
          have heb : e ≤ b.size := by omega
          clear hown hb hpe hce hes he hnx
          go_wp2_with fail
          refine (J.out _ HB.out).mono ?_
          rintro e1 w1 ⟨rfl, hb1⟩
          have hO1 := (HO.out.later hb1).row
          rw [HRL.out] at hO1
          have HO1 := Lib.hid hO1
          have hs1 : w.heap.size ≤ w1.heap.size := Nat.le_trans hsz0 hb1.size
          have HB1 := Lib.hid (HB.out.trans (hb1.mono hsz0))
          clear hO1 hb1 J HO HB
          go_wp2_with (at_builtin; refine wpList_push1 rfl _ _ 51 rfl w.heap.size 9 (.string ByteArray.empty) 16 Tryd.underlying51 infoW rfl _ _ _ rfl HO1.out _ 1 rfl (by rfl) (by omega) (by omega) hs1 ?_; intro v' w9 hown' hb9 hg9)
          go_roundw
          case rel =>
            refine ⟨k + 1, _, by omega, by go_num, rfl, HNX, ?_, HB1.out.trans hb9⟩
            rw [range_snoc, HCE.out]
            exact OwnW.of hown' (by simp)
          case measure => simp [intOf]; omega
        · obtain rfl : k = t := by omega
          have HO := Lib.hid hown
          clear hlt hk hown
          go_wp2_with fail
          go_ret
          exact ⟨_, rfl, by rw [HF.out]; exact HO.out, hb⟩
end Go.Proofs.YtkkgonkpmdlelaaDoor.kit
