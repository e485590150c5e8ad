/-
  Chapter 3: how the program reads numbers out of words.
-/
import Derived.Test.YtgjebjoaemeeoaaGreatDoorS3Cut
import Derived.Test.YtgjebjoaemeeoaaGreatDoorInts
import Derived.Test.YtgjebjoaemeeoaaGreatDoorC1ParseImpl
import Derived.Deep.RegionHeld3
import Derived.Deep.DrawnRows
namespace Go.Proofs.YtgjebjoaemeeoaaGreatDoor.kit
open Go.ChangeShapes Go.WideShapes Go.ChangeAt Go.RowKit
set_option linter.unusedVariables false
attribute [local go_sem ↓] Go.wp_at_zero Go.wp_at_succ

/-- the address a leads to the strings ps -/
def AtP (w : World) (a : Option Addr) (ps : List (List UInt8)) : Prop := ∀ j, j < ps.length → ∃ x : Addr, a = some x ∧ x.block < w.heap.size ∧ w.cell? (x.add j) = some (str (ps.getD j []))
theorem AtP.later {w w' : World} {a : Option Addr} {ps : List (List UInt8)} (h : AtP w a ps) (hb : Below w.heap.size w w') : AtP w' a ps := fun j hj => by
  obtain ⟨x, hx, hlt, hc⟩ := h j hj
  exact ⟨x, hx, Nat.lt_of_lt_of_le hlt hb.size, (hb.cell (p := x.add j) (by unfold Addr.add; split <;> exact hlt)).trans hc⟩
theorem allPar_snoc {ps : List (List UInt8)} {k : Nat} (h : k < ps.length) : allPar (ps.take (k + 1)) = (allPar (ps.take k) && parOk (ps.getD k [])) := by
  unfold allPar
  rw [List.take_succ_eq_append_getElem h, List.all_append]
  simp [List.getD, h]
theorem allPar_no {ps : List (List UInt8)} {k : Nat} (h : k < ps.length) (hk : parOk (ps.getD k []) = false) : allPar ps = false := by
  unfold allPar
  rw [List.all_eq_false]
  refine ⟨ps[k], List.getElem_mem h, ?_⟩
  have e : ps.getD k [] = ps[k] := by simp [List.getD, h]
  rw [e] at hk
  simp [hk]
theorem nums_snoc {ps : List (List UInt8)} {k : Nat} (h : k < ps.length) : (ps.take (k + 1)).map parN = (ps.take k).map parN ++ [parN (ps.getD k [])] := by
  rw [List.take_succ_eq_append_getElem h, List.map_append]
  simp [List.getD, h]
def numsOf (ps : List (List UInt8)) : List Int := if allPar ps then ps.map parN else []

theorem implParseIntL (p : List UInt8) (w : World) (h : p.length ≤ 1048576) (hT : Tab w) : Calls Tryz.prog 71 #[str p] w fun e w' => e = .returned (.tuple #[.int .i64 (parN p), .bool (parOk p)]) ∧ Below w.heap.size w w' := by
  have := implParseInt ⟨p.toArray⟩ w (by simpa [ByteArray.size] using h) hT
  simpa using this
set_option maxRecDepth 100000 in
set_option maxHeartbeats 4000000 in
theorem parseInts (a : Option Addr) (n c : Nat) (ps : List (List UInt8)) (w : World) (hn : n = ps.length) (h5 : n ≤ 5) (hs : ∀ j, (ps.getD j []).length ≤ 1048576) (hat : AtP w a ps) (hT : Tab w) :
    Calls Tryz.prog 35 #[.slice a n c] w fun e w' => ∃ v, e = .returned (.tuple #[v, .bool (allPar ps)]) ∧ OwnI w.heap.size w' v (numsOf ps) ∧ Below w.heap.size w w' := by
  have hmk : ∀ W : World, (Instr.makeSlice 35 (.int .i64 0) (.int .i64 (n : Int))).run Tryz.prog W = .ok (.slice (some ⟨W.heap.size, 0, none⟩) 0 n) (W.alloc (.cells (madeCells #[.int .i64 0] n) 3)) := fun W => by
    obtain ⟨i0, hi, hz0, hz1, hz2⟩ := info_parts infoI
    have h := run_make (P := Tryz.prog) W 35 3 i0 (.int .i64 0) Tryz.underlying35 hi hz0 .i64 .i64 0 (n : Int) (by omega) (by omega) (by rw [hz2]; omega) (by omega)
    simpa [hz1, Value.cells] using h
  have HN := Lib.hid hn
  have HA := Lib.hid hat
  have HS := Lib.hid hs
  clear hn hat hs
  go_enter Tryz.func35, Tryz.ntmps35
  go_wp2_with fail
  clear hmk
  go_loopw [4, 14] (fun v i wr => ∃ k : Nat, k ≤ n ∧ i = .int .i64 k ∧ OwnI w.heap.size wr v ((ps.take k).map parN) ∧ Hid (allPar (ps.take k) = true) ∧ Below w.heap.size w wr) (fun _ i _ => n - (intOf i).toNat)
  case atStart => exact ⟨0, Nat.zero_le _, rfl, World.ownsRow_made w _ _ (Nat.le_refl _) (by unfold maxLen; omega) (by simp [size_madeCells]), Lib.hid rfl, (Below.refl _ _).alloc (Nat.le_refl _) _⟩
  case round =>
    obtain ⟨k, hk, rfl, ho, hall, hb⟩ := hrel
    by_cases hlt : k < n
    · have hkp : k < ps.length := by rw [← HN.out]; exact hlt
      obtain ⟨p, rfl, hp, hc⟩ := HA.out k hkp
      have hc' : wr.cell? (p.add k) = some (str (ps.getD k [])) := (hb.cell (p := p.add k) (by unfold Addr.add; split <;> exact hp)).trans hc
      have hlen : ((ps.take k).map parN).length ≤ 5 := by rw [List.length_map, List.length_take]; omega
      have C1 := Lib.hid (implParseIntL (ps.getD k []) wr (HS.out k) (hT.below hb))
      have HB := Lib.hid hb
      have HO := Lib.hid ho
      have hs0 := hb.size
      by_cases hq : parOk (ps.getD k []) = true
      · have HX := Lib.hid (nums_snoc hkp)
        have HY : Hid (allPar (ps.take (k + 1)) = true) := Lib.hid (by rw [allPar_snoc hkp, hall.out, hq]; rfl)
        rw [hq] at C1
        clear hc hkp ho hb hq
        generalize ps.getD k [] = q at *
        go_wp2_with fail
        refine (C1.out).mono ?_
        rintro e w1 ⟨rfl, hb1⟩
        have ho1 := (HO.out.later hb1).row
        have hs1 : w.heap.size ≤ w1.heap.size := Nat.le_trans hs0 hb1.size
        have HB1 := Lib.hid hb1
        clear hb1
        go_wp2_with (at_builtin; refine wpList_push1 rfl _ _ 35 rfl w.heap.size 3 (.int .i64 0) 8 Tryz.underlying35 infoI rfl _ _ _ rfl ho1 _ 1 rfl (by rfl) (by omega) (by omega) hs1 ?_; intro v' w9 hown' hb9 hg9)
        go_roundw
        case rel => exact ⟨k + 1, by omega, by go_num, by rw [HX.out]; exact OwnI.snoc hown', HY, (HB.out.trans (HB1.out.mono hs0)).trans hb9⟩
        case measure => simp [intOf]; omega
      · have hq : parOk (ps.getD k []) = false := by simpa using hq
        have HF := Lib.hid (allPar_no hkp hq)
        have HE : Hid (numsOf ps = []) := Lib.hid (by unfold numsOf; rw [HF.out]; rfl)
        rw [hq] at C1
        clear hc hkp ho hb hq
        generalize ps.getD k [] = q at *
        go_wp2_with (go_at_call 71; refine (C1.out).mono ?_; rintro e w1 ⟨rfl, hb1⟩)
        go_ret2
        exact ⟨_, by rw [HF.out]; rfl, by rw [HE.out]; exact World.ownsRow_nil _ _ _ _, HB.out.trans (hb1.mono hs0)⟩
    · obtain rfl : k = n := by omega
      have hfull : ps.take k = ps := List.take_of_length_le (by rw [← HN.out]; exact Nat.le_refl _)
      rw [hfull] at ho hall
      have HE : Hid (numsOf ps = ps.map parN) := Lib.hid (by unfold numsOf; rw [hall.out]; rfl)
      have HO := Lib.hid ho
      have HB := Lib.hid hb
      clear hfull ho hb
      go_wp2_with fail
      go_ret2
      exact ⟨_, by rw [hall.out]; rfl, by rw [HE.out]; exact HO.out, HB.out⟩
end Go.Proofs.YtgjebjoaemeeoaaGreatDoor.kit
