/-
  Chapter 5: what impl's ParseLog returns.
-/
import Derived.Test.YtkkgonkpmdlelaaDoorS5Math
import Derived.Test.YtkkgonkpmdlelaaDoorS5Log
import Derived.Test.YtkkgonkpmdlelaaDoorS3ParseOpEnd
import Derived.Test.YtkkgonkpmdlelaaDoorEnts4
import Derived.Test.YtkkgonkpmdlelaaDoorBoxC
namespace Go.Proofs.YtkkgonkpmdlelaaDoor.kit
open Go.ChangeShapes Go.WideShapes Go.ChangeAt Go.RowKit
set_option linter.unusedVariables false
set_option linter.unusedSimpArgs false

def partsL (l : List UInt8) : List (List UInt8) := Lib.splitK [59] 0 15 l
theorem split_far (x : UInt8) : ∀ (n : Nat) (l : List UInt8), l.length ≤ n → ∀ k k', l.length ≤ k → l.length ≤ k' → Lib.splitK [x] 0 k l = Lib.splitK [x] 0 k' l
  | n, l, hn, k, k', h, h' => by
    rcases first_x x l with hx | ⟨a, r, ha, rfl⟩
    · rw [split_none hx, split_none hx]
    · match n, k, k' with
      | 0, _, _ => simp at hn
      | _, 0, _ => simp at h
      | _, _, 0 => simp at h'
      | n + 1, k + 1, k' + 1 =>
        rw [split_app ha, split_app ha, split_far x n r (by simp at hn; omega) k k' (by simp at h; omega) (by simp at h'; omega)]
theorem parts_min (l : List UInt8) : Lib.splitK [59] 0 (min 16 (l.length + 1) - 1) l = partsL l := by
  by_cases h : 16 ≤ l.length + 1
  · rw [Nat.min_eq_left h]; rfl
  · exact split_far 59 _ l (Nat.le_refl _) _ _ (by omega) (by omega)
theorem cut_leE (p : List UInt8) : (Lib.cut p [58]).1.length ≤ p.length ∧ (Lib.cut p [58]).2.1.length ≤ p.length := by
  rcases first_x 58 p with h | ⟨a, r, h, rfl⟩
  · rw [cut_none h]; simp
  · rw [cut_app h]; simp; omega
def peV (p : List UInt8) : Value := entV (if peOk p = true then peE p else z0E)
theorem peV_no {p : List UInt8} (h : peOk p = false) : peV p = .agg #[.int .i64 0, .int .i64 0, .int .i64 0, .int .i64 0, .int .i64 0, .int .i64 0, .int .i64 0] := by unfold peV; rw [h]; rfl
theorem peV_yes {p : List UInt8} (h : peOk p = true) : peV p = entV (peE p) := by unfold peV; rw [if_pos h]
theorem splitParts (s : ByteArray) (w : World) (hs : s.size ≤ 1048576) (hM : Mx w) :
    Calls Tryd.prog 43 #[.string s, .string { data := #[59] }, .int .i64 16] w fun e w' => ∃ g cap, e = .returned (.slice (some ⟨g, 0, none⟩) (partsL s.data.toList).length cap) ∧ (partsL s.data.toList).length ≤ cap ∧ cap ≤ 16 ∧ w.heap.size ≤ g ∧ g < w'.heap.size ∧
      (∀ j, j < (partsL s.data.toList).length → w'.cell? ⟨g, j, none⟩ = some (str ((partsL s.data.toList).getD j []))) ∧ Below w.heap.size w w' := by
  obtain ⟨m, hm⟩ := hM
  have hl : s.data.toList.length = s.size := by rw [Array.length_toList]; rfl
  refine (Tryd.strings_SplitN s { data := #[59] } 16 m w (by omega) hm (by decide) (by omega) (by omega)).mono ?_
  rintro e w' ⟨rfl, rfl⟩
  have hd := Lib.splitB_data { data := #[59] } 0 (min 16 (s.size + 1) - 1) s
  have hle := Lib.splitB_length_le { data := #[59] } 0 (min 16 (s.size + 1) - 1) s
  have hw : partsL s.data.toList = (Lib.splitB { data := #[59] } 0 (min 16 (s.size + 1) - 1) s).map (·.data.toList) := by rw [hd, ← parts_min, hl]
  have hlen : (partsL s.data.toList).length = (Lib.splitB { data := #[59] } 0 (min 16 (s.size + 1) - 1) s).length := by rw [hw, List.length_map]
  refine ⟨w.heap.size, min 16 (s.size + 1), by rw [hlen], by rw [hlen]; omega, by omega, Nat.le_refl _, by simp, fun j hj => ?_, (Below.refl _ _).alloc (Nat.le_refl _) _⟩
  rw [World.cell?_alloc_at _ _ _ _ rfl]
  rw [hlen] at hj
  unfold Lib.cellsOf
  rw [List.getElem?_toArray, List.getElem?_append_left (by simpa using hj), hw]
  simp [hj]
theorem cutAtE (b : List UInt8) (w : World) (h : b.length ≤ 1048576) (hM : Mx w) :
    Calls Tryd.prog 79 #[str b, .string ⟨#[58]⟩] w fun e w' => e = .returned (.tuple #[str (Lib.cut b [58]).1, str (Lib.cut b [58]).2.1, .bool (Lib.cut b [58]).2.2]) ∧ Below w.heap.size w w' := by
  obtain ⟨m, hm⟩ := hM
  refine (Tryd.strings_Cut ⟨b.toArray⟩ ⟨#[58]⟩ m w (by rw [size_mk]; omega) hm).mono ?_
  rintro e w' ⟨rfl, n, rfl⟩
  exact ⟨rfl, below_drewN (Below.refl _ _) _⟩
set_option maxRecDepth 100000 in
set_option maxHeartbeats 8000000 in
theorem implParseEntry (p : List UInt8) (w : World) (hp : p.length ≤ 1048576) (hT : Tab w) (hM : Mx w) :
    Calls Tryd.prog 56 #[str p] w fun e w' => e = .returned (.tuple #[peV p, .bool (peOk p)]) ∧ Below w.heap.size w w' := by
  obtain ⟨W, hW⟩ : ∃ W, W = w.alloc (.cells #[.int .i64 0, .int .i64 0, .int .i64 0, .int .i64 0, .int .i64 0, .int .i64 0, .int .i64 0] 85) := ⟨_, rfl⟩
  have hB : Below w.heap.size w W := by rw [hW]; exact (Below.refl _ _).alloc (Nat.le_refl _) _
  have HR := Lib.hid (show BoxC W w.heap.size 85 #[.int .i64 0, .int .i64 0, .int .i64 0, .int .i64 0, .int .i64 0, .int .i64 0, .int .i64 0] by rw [hW]; exact BoxC.new _ _ _)
  have HB := Lib.hid hB
  have HW := Lib.hid hW
  have HT := Lib.hid hT
  have HM := Lib.hid hM
  have hc := cut_leE p
  have jc := fun W' (h : Mx W') => cutAtE p W' hp h
  obtain ⟨pa, pb, pf, hcut⟩ : ∃ a b c, Lib.cut p [58] = (a, b, c) := ⟨_, _, _, rfl⟩
  have HE := Lib.hid (show peOk p = (parOk pa && parOok pb) by unfold peOk; rw [hcut])
  have HV := Lib.hid (show peE p = ⟨parN pa, (parO pb).1, (parO pb).2.1, (parO pb).2.2.1, (parO pb).2.2.2.1, (parO pb).2.2.2.2.1, (parO pb).2.2.2.2.2⟩ by unfold peE; rw [hcut])
  rw [hcut] at jc hc
  simp only at jc hc
  have JC := Lib.hid jc
  have jp := fun W' (m : Mx W') (t : Tab W') => implParseOp ⟨pb.toArray⟩ W' (by rw [size_mk]; omega) m t
  simp only at jp
  obtain ⟨oc, os, ok, oo, od, ov, hpo⟩ : ∃ a b c d e f, parO pb = (a, b, c, d, e, f) := ⟨_, _, _, _, _, _, rfl⟩
  rw [hpo] at jp HV
  simp only at jp HV
  unfold opV at jp
  have JP := Lib.hid jp
  have hla : pa.length ≤ 1048576 := by omega
  clear hB hW hT hM hcut hpo jc jp hc
  go_enter Tryd.func56, Tryd.ntmps56
  go_wp2_with fail
  rw [← HW.out]
  refine (JC.out _ (HM.out.below HB.out)).mono ?_
  rintro e w1 ⟨rfl, hb⟩
  replace HR := Lib.hid (HR.out.later hb)
  replace HB := Lib.hid (HB.out.trans (hb.mono HB.out.size))
  clear hb HW JC
  go_wp2_with fail
  refine (implParseIntL pa _ hla (HT.out.below HB.out)).mono ?_
  rintro e w2 ⟨rfl, hb⟩
  replace HR := Lib.hid (HR.out.later hb)
  replace HB := Lib.hid (HB.out.trans (hb.mono HB.out.size))
  clear hb
  go_wp2_with fail
  refine (JP.out _ (HM.out.below HB.out) (HT.out.below HB.out)).mono ?_
  rintro e w3 ⟨rfl, hb⟩
  replace HR := Lib.hid (HR.out.later hb)
  replace HB := Lib.hid (HB.out.trans (hb.mono HB.out.size))
  have hbA := (Below.refl w3.heap.size w3).alloc (Nat.le_refl _) (.cells #[.int .i64 oc, .int .i64 os, .int .i64 ok, .int .i64 oo, .int .i64 od, .int .i64 ov] 80)
  replace HR := Lib.hid (HR.out.later hbA)
  replace HB := Lib.hid (HB.out.trans (hbA.mono HB.out.size))
  clear hb JP hbA
  have r0 := HR.out.c 0 rfl
  have r1 := HR.out.c 1 rfl
  have r2 := HR.out.c 2 rfl
  have r3 := HR.out.c 3 rfl
  have r4 := HR.out.c 4 rfl
  have r5 := HR.out.c 5 rfl
  have r6 := HR.out.c 6 rfl
  have f0 := HR.out.f 0
  have f1 := HR.out.f 1
  have f2 := HR.out.f 2
  have f3 := HR.out.f 3
  have f4 := HR.out.f 4
  have f5 := HR.out.f 5
  have f6 := HR.out.f 6
  generalize parN pa = nu at *
  cases h1 : parOk pa with
  | false =>
    rw [h1, Bool.false_and] at HE
    clear h1
    go_wp2_with fail
    refine bodyPost_ret (v := .tuple #[.agg #[.int .i64 0, .int .i64 0, .int .i64 0, .int .i64 0, .int .i64 0, .int .i64 0, .int .i64 0], .bool false]) (by simp [results, Tryd.results56, go_sem, r0, r1, r2, r3, r4, r5, r6]) rfl ?_
    refine ⟨by rw [peV_no HE.out, HE.out], ?_⟩
    exact
      (((((((HB.out.setCell (p := ⟨w.heap.size, 0, none⟩) (Nat.le_refl _) _).setCell (p := ⟨w.heap.size, 1, none⟩) (Nat.le_refl _) _).setCell (p := ⟨w.heap.size, 2, none⟩) (Nat.le_refl _) _).setCell (p := ⟨w.heap.size, 3, none⟩) (Nat.le_refl _) _).setCell (p := ⟨w.heap.size, 4, none⟩) (Nat.le_refl _) _).setCell (p := ⟨w.heap.size, 5, none⟩) (Nat.le_refl _) _).setCell (p := ⟨w.heap.size, 6, none⟩) (Nat.le_refl _) _)
  | true =>
    rw [h1, Bool.true_and] at HE
    clear h1
    cases h2 : parOok pb with
    | false =>
      rw [h2] at HE
      clear h2
      go_wp2_with fail
      refine bodyPost_ret (v := .tuple #[.agg #[.int .i64 0, .int .i64 0, .int .i64 0, .int .i64 0, .int .i64 0, .int .i64 0, .int .i64 0], .bool false]) (by simp [results, Tryd.results56, go_sem, r0, r1, r2, r3, r4, r5, r6]) rfl ?_
      refine ⟨by rw [peV_no HE.out, HE.out], ?_⟩
      exact
        (((((((HB.out.setCell (p := ⟨w.heap.size, 0, none⟩) (Nat.le_refl _) _).setCell (p := ⟨w.heap.size, 1, none⟩) (Nat.le_refl _) _).setCell (p := ⟨w.heap.size, 2, none⟩) (Nat.le_refl _) _).setCell (p := ⟨w.heap.size, 3, none⟩) (Nat.le_refl _) _).setCell (p := ⟨w.heap.size, 4, none⟩) (Nat.le_refl _) _).setCell (p := ⟨w.heap.size, 5, none⟩) (Nat.le_refl _) _).setCell (p := ⟨w.heap.size, 6, none⟩) (Nat.le_refl _) _)
    | true =>
      rw [h2] at HE
      clear h2
      go_wp2_with fail
      refine bodyPost_ret (v := .tuple #[.agg #[.int .i64 nu, .int .i64 oc, .int .i64 os, .int .i64 ok, .int .i64 oo, .int .i64 od, .int .i64 ov], .bool true]) (by simp [results, Tryd.results56, go_sem, r0, r1, r2, r3, r4, r5, r6]) rfl ?_
      refine ⟨by rw [peV_yes HE.out, HE.out, HV.out], ?_⟩
      exact
        (((((((HB.out.setCell (p := ⟨w.heap.size, 0, none⟩) (Nat.le_refl _) _).setCell (p := ⟨w.heap.size, 1, none⟩) (Nat.le_refl _) _).setCell (p := ⟨w.heap.size, 2, none⟩) (Nat.le_refl _) _).setCell (p := ⟨w.heap.size, 3, none⟩) (Nat.le_refl _) _).setCell (p := ⟨w.heap.size, 4, none⟩) (Nat.le_refl _) _).setCell (p := ⟨w.heap.size, 5, none⟩) (Nat.le_refl _) _).setCell (p := ⟨w.heap.size, 6, none⟩) (Nat.le_refl _) _)
def lpE (ps : List (List UInt8)) (k : Nat) : List Ent := (ps.take k).map peE
theorem lpE_succ {ps : List (List UInt8)} {k : Nat} (h : k < ps.length) : lpE ps (k + 1) = lpE ps k ++ [peE (ps.getD k [])] := by
  unfold lpE
  rw [List.take_succ_eq_append_getElem h, List.map_append]
  simp [List.getD, h]
theorem lpE_len {ps : List (List UInt8)} {k : Nat} (h : k ≤ ps.length) : (lpE ps k).length = k := by unfold lpE; rw [List.length_map, List.length_take]; omega
theorem lpE_all (ps : List (List UInt8)) : lpE ps ps.length = ps.map peE := by unfold lpE; rw [List.take_length]
theorem parts_bad {s : List UInt8} (hn : s ≠ wordNone) {k : Nat} (h : k < (partsL s).length) (hk : peOk ((partsL s).getD k []) = false) : parLok s = false ∧ parLl s = [] :=
  strict_no hn (fun hh => by
    have := hh.1 ((partsL s).getD k []) (by
      have : (partsL s).getD k [] ∈ partsL s := by simp [List.getD, h]
      exact this)
    rw [hk] at this
    cases this)
theorem parts_all {ps : List (List UInt8)} (h : ∀ j, j < ps.length → peOk (ps.getD j []) = true) : ∀ p ∈ ps, peOk p = true := fun p hp => by
  obtain ⟨j, hj, rfl⟩ := List.mem_iff_getElem.1 hp
  have := h j hj
  simpa [List.getD, hj] using this
theorem infoEi : Tryd.prog.underlying 31 = some (.slice 85) := Tryd.underlying31
set_option maxRecDepth 100000 in
set_option maxHeartbeats 8000000 in
theorem implParseLog (s : ByteArray) (w : World) (hs : s.size ≤ 1048576) (hT : Tab w) (hM : Mx w) :
    Calls Tryd.prog 16 #[.string s] w fun e w' => ∃ u, e = .returned (.tuple #[u, .bool (parLok s.data.toList)]) ∧ OwnE w.heap.size w' u (parLl s.data.toList) ∧ Below w.heap.size w w' := by
  have hl : s.data.toList.length = s.size := by rw [Array.length_toList]; rfl
  by_cases hn : s.data.toList = wordNone
  · have HF := Lib.hid (show parLok s.data.toList = true ∧ parLl s.data.toList = [] from ⟨decide_eq_true (.inl hn), if_pos hn⟩)
    have g0 : (s.toList == [110, 111, 110, 101]) = true := by rw [ByteArray.toList_eq, hn]; rfl
    clear hn
    go_enter Tryd.func16, Tryd.ntmps16
    go_wp2_with fail
    refine bodyPost_ret (v := .tuple #[.slice none 0 0, .bool true]) (by simp [results, Tryd.results16, go_sem]) rfl ?_
    exact ⟨_, by rw [HF.out.1], by rw [HF.out.2]; exact World.ownsRow_nil _ _ _ _, Below.refl _ _⟩
  have g0 : (s.toList == [110, 111, 110, 101]) = false := by rw [ByteArray.toList_eq, beq_eq_false_iff_ne]; exact hn
  have HT := Lib.hid hT
  have HM := Lib.hid hM
  have HBAD := Lib.hid (fun k h hk => parts_bad (s := s.data.toList) (k := k) hn h hk)
  have HYES := Lib.hid (fun h1 h2 => strict_yes (s := s.data.toList) hn h1 h2)
  have HNO := Lib.hid (fun h => strict_no (s := s.data.toList) hn h)
  have HSZ := Lib.hid (show ∀ j, ((partsL s.data.toList).getD j []).length ≤ 1048576 from fun j => by
    rcases Nat.lt_or_ge j (partsL s.data.toList).length with h | h
    · have hm : (partsL s.data.toList).getD j [] ∈ partsL s.data.toList := by simp [List.getD, h]
      have := split_mem 59 _ _ _ hm
      omega
    · simp [List.getD, h])
  have js := splitParts s w hs hM
  rw [show Lib.splitK [59] 0 15 s.data.toList = partsL s.data.toList from rfl] at HYES HNO
  generalize partsL s.data.toList = ps at *
  have JS := Lib.hid js
  clear hn hT hM js hl
  go_enter Tryd.func16, Tryd.ntmps16
  go_wp2_with fail
  refine JS.out.mono ?_
  rintro e w1 ⟨g, cap, rfl, hn1, hc16, hg, hgl, hcell, hb⟩
  have HC := Lib.hid hcell
  have HB := Lib.hid hb
  have hmk : ∀ W : World, (Instr.makeSlice 31 (.int .i64 0) (.int .i64 (ps.length : Int))).run Tryd.prog W = .ok (.slice (some ⟨W.heap.size, 0, none⟩) 0 ps.length) (W.alloc (.cells (madeCells #[.int .i64 0, .int .i64 0, .int .i64 0, .int .i64 0, .int .i64 0, .int .i64 0, .int .i64 0] (ps.length * 7)) 85)) := fun W => by
    obtain ⟨i0, hi, hz0, hz1, hz2⟩ := info_parts infoE
    have h := run_make (P := Tryd.prog) W 31 85 i0 (.agg #[.int .i64 0, .int .i64 0, .int .i64 0, .int .i64 0, .int .i64 0, .int .i64 0, .int .i64 0]) infoEi hi hz0 .i64 .i64 0 (ps.length : Int) (by omega) (by omega) (by rw [hz2]; omega) (by omega)
    simpa [hz1, Value.cells] using h
  clear hcell hb g0 JS
  go_wp2_with fail
  clear hmk
  have hgn : g < w1.heap.size := hgl
  go_loopw [5, 19] (fun u i wr => ∃ k : Nat, k ≤ ps.length ∧ i = .int .i64 k ∧ Hid (OwnE w1.heap.size wr u (lpE ps k)) ∧ Hid (∀ j, j < k → peOk (ps.getD j []) = true) ∧ Hid (Below w1.heap.size w1 wr)) (fun _ i _ => ps.length - (intOf i).toNat)
  case atStart => exact ⟨0, Nat.zero_le _, rfl, Lib.hid (World.ownsRow_made w1 _ _ (Nat.le_refl _) (by unfold maxLen; omega) (by simp [size_madeCells])), Lib.hid (fun j hj => by omega), Lib.hid ((Below.refl _ _).alloc (Nat.le_refl _) _)⟩
  case round =>
    obtain ⟨k, hk, rfl, HO, HJ, HQ⟩ := hrel
    obtain ⟨ua, uc, rfl⟩ := HO.out.shape
    have hlen := lpE_len hk
    have k3 : (0 : Int) ≤ (k : Int) := by omega
    by_cases hlt : k < ps.length
    · have k5 : (k : Int) < (ps.length : Int) := by omega
      have hcell := (HQ.out.cell (p := ⟨g, k, none⟩) hgn).trans (HC.out k hlt)
      have HX := Lib.hid (lpE_succ hlt)
      have hsz := HSZ.out k
      have HBK := Lib.hid (HBAD.out k hlt)
      have HJS := Lib.hid (fun (h : peOk (ps.getD k []) = true) (j : Nat) (hj : j < k + 1) => show peOk (ps.getD j []) = true by
        by_cases e : j = k
        · rw [e]; exact h
        · exact HJ.out j (by omega))
      have JE := Lib.hid (implParseEntry (ps.getD k []) wr hsz (HT.out.below (HB.out.trans (HQ.out.mono HB.out.size))) (HM.out.below (HB.out.trans (HQ.out.mono HB.out.size))))
      generalize ps.getD k [] = p at *
      cases hq : peOk p with
      | false =>
        have HF := Lib.hid (HBK.out hq)
        rw [hq, peV_no hq] at JE
        clear hq
        go_wp2_with fail
        refine JE.out.mono ?_
        rintro e w2 ⟨rfl, hb⟩
        replace HQ := Lib.hid (HQ.out.trans (hb.mono HQ.out.size))
        clear hb JE
        go_wp2_with fail
        refine bodyPost_ret (v := .tuple #[.slice none 0 0, .bool false]) (by simp [results, Tryd.results16, go_sem]) rfl ?_
        exact ⟨_, by rw [HF.out.1], by rw [HF.out.2]; exact World.ownsRow_nil _ _ _ _, (HB.out.trans (HQ.out.mono HB.out.size)).alloc (Nat.le_trans HB.out.size HQ.out.size) _⟩
      | true =>
        replace HJS := Lib.hid (HJS.out hq)
        rw [hq, peV_yes hq] at JE
        obtain ⟨xe, xc, xs, xk, xo, xd, xv, hx⟩ : ∃ a b c d e f g, peE p = ⟨a, b, c, d, e, f, g⟩ := ⟨_, _, _, _, _, _, _, rfl⟩
        rw [hx] at JE HX
        unfold entV at JE
        simp only at JE
        clear hq hx hsz HBK HJ
        go_wp2_with fail
        refine JE.out.mono ?_
        rintro e w2 ⟨rfl, hb⟩
        replace HO := Lib.hid (HO.out.later hb)
        replace HQ := Lib.hid (HQ.out.trans (hb.mono HQ.out.size))
        clear hb JE hcell
        have hbA := (Below.refl w2.heap.size w2).alloc (Nat.le_refl _) (.cells #[.int .i64 xe, .int .i64 xc, .int .i64 xs, .int .i64 xk, .int .i64 xo, .int .i64 xd, .int .i64 xv] 85)
        have HO2 := Lib.hid (HO.out.later hbA)
        have HQ2 := Lib.hid (HQ.out.trans (hbA.mono HQ.out.size))
        have hlit := SrcE.lit (w2.alloc (.cells #[.int .i64 xe, .int .i64 xc, .int .i64 xs, .int .i64 xk, .int .i64 xo, .int .i64 xd, .int .i64 xv] 85)) xe xc xs xk xo xd xv
        simp only [World.size_alloc] at hlit
        have hs2 := HQ2.out.size
        simp only [World.size_alloc] at hs2
        rw [hlen] at HO2
        go_wp2_with (at_builtin; refine wpList_appE infoEi rfl (.tmp 30) (.tmp 32) rfl w1.heap.size _ (lpE ps k) rfl (HO2.out.later ((Below.refl _ _).alloc (Nat.le_refl _) _)) _ _ [⟨xe, xc, xs, xk, xo, xd, xv⟩] rfl hlit (by simp; omega) (by simp; omega) ?_; intro v' w6 ho6 hb6 hg6)
        go_roundw
        case rel => exact ⟨k + 1, by omega, by go_num, Lib.hid (by rw [HX.out]; exact ho6), HJS, Lib.hid ((HQ2.out.alloc (by simp; omega) _).trans hb6)⟩
        case measure => simp [intOf]; omega
    · obtain rfl : k = ps.length := by omega
      have JI := Lib.hid (implIsLogA ua uc (lpE ps ps.length) wr (by omega) (by
        obtain ⟨a, c, hv, _, _, ha, _⟩ := HO.out.form
        injection hv with h1
        subst h1
        exact ha))
      have HAL := Lib.hid (lpE_all ps)
      have HJA := Lib.hid (parts_all HJ.out)
      have hll := hlen
      by_cases hk : LOk (lpE ps ps.length)
      · rw [decide_eq_true hk] at JI
        rw [HAL.out] at hk
        have HF := Lib.hid (HYES.out HJA.out hk)
        rw [← HAL.out] at HF
        rw [hlen] at JI
        have ho := HO.out
        rw [hlen] at ho
        have HO3 := Lib.hid ho
        clear hk ho hlt
        go_wp2_with fail
        refine JI.out.mono ?_
        rintro e w2 ⟨rfl, hb⟩
        go_wp2_with fail
        refine bodyPost_ret (v := .tuple #[.slice ua ps.length uc, .bool true]) (by simp [results, Tryd.results16, go_sem]) rfl ?_
        exact ⟨_, by rw [HF.out.1], by rw [HF.out.2]; exact (HO3.out.later hb).mono HB.out.size, (HB.out.trans (HQ.out.mono HB.out.size)).trans (hb.mono (Nat.le_trans HB.out.size HQ.out.size))⟩
      · rw [decide_eq_false hk] at JI
        rw [HAL.out] at hk
        have HF := Lib.hid (HNO.out (fun h => hk h.2))
        rw [hlen] at JI
        clear hk hlt
        go_wp2_with fail
        refine JI.out.mono ?_
        rintro e w2 ⟨rfl, hb⟩
        go_wp2_with fail
        refine bodyPost_ret (v := .tuple #[.slice none 0 0, .bool false]) (by simp [results, Tryd.results16, go_sem]) rfl ?_
        exact ⟨_, by rw [HF.out.1], by rw [HF.out.2]; exact World.ownsRow_nil _ _ _ _, (HB.out.trans (HQ.out.mono HB.out.size)).trans (hb.mono (Nat.le_trans HB.out.size HQ.out.size))⟩
end Go.Proofs.YtkkgonkpmdlelaaDoor.kit
