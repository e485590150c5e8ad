/-
  Chapter 7, plain lists: a machine and a snapshot are read back from their formats, by the specification's way (cut everywhere, write it again, compare) and by the program's (split at most twice, each part strictly read).
-/
import Derived.Test.YtibpajlfcknegaaDoorS4Math
import Derived.Test.YtibpajlfcknegaaDoorS7Snap
namespace Go.Proofs.YtibpajlfcknegaaDoor.kit
set_option linter.unusedVariables false
set_option linter.unusedSimpArgs false

/-- a machine is read back -/
theorem mach_back {L1 : List Int} {L2 : List Sess} (h : MOk L1 L2) : parMok (fmtM L1 L2) = true ∧ parMO (fmtM L1 L2) = L1 ∧ parMX (fmtM L1 L2) = L2 := by
  have hob := objs_fmt h
  have hl := h.len
  have hno : ∀ p ∈ fmtOs L1 :: L2.map fmtX, (32 : UInt8) ∉ p := fun p hp => by
    rcases List.mem_cons.1 hp with rfl | hp
    · exact isDig_no hob.2.2.1
    · obtain ⟨x, hx, rfl⟩ := List.mem_map.1 hp
      exact fmtX_no (h.mem hx)
  have hc : cuts 32 (fmtM L1 L2) = fmtOs L1 :: L2.map fmtX := by rw [fmtM_join h]; exact cuts_join (by simp) hno
  have ho : looseOs (fmtM L1 L2) = L1 := by unfold looseOs; rw [hc, List.getD_cons_zero]; exact hob.2.1
  have hx : looseXs (fmtM L1 L2) = L2 := by
    unfold looseXs
    rw [hc, List.drop_succ_cons, List.drop_zero, List.take_of_length_le (by rw [List.length_map]; omega), List.map_map]
    conv => rhs; rw [← List.map_id L2]
    exact List.map_congr_left (fun x hx => looseX_fmt (h.mem hx))
  have hne : fmtM L1 L2 ≠ [] := fun e => by
    have h3 := hob.1
    unfold fmtM at e
    rw [if_pos h] at e
    have := (List.append_eq_nil_iff.1 e).1
    rw [this] at h3
    simp at h3
  have hok : okPM (fmtM L1 L2) := ⟨hne, by rw [ho, hx]⟩
  exact ⟨decide_eq_true hok, by unfold parMO; rw [if_pos hok, ho], by unfold parMX; rw [if_pos hok, hx]⟩
theorem mach_none : parMok [] = false := decide_eq_false (fun h => h.1 rfl)
/-- what was read writes the text again -/
theorem mach_write {p : List UInt8} (h : parMok p = true) : fmtM (parMO p) (parMX p) = p := by
  have hok : okPM p := of_decide_eq_true h
  unfold parMO parMX
  rw [if_pos hok, if_pos hok]
  exact hok.2
theorem fmtM_no {L1 : List Int} {L2 : List Sess} (h : MOk L1 L2) : (44 : UInt8) ∉ fmtM L1 L2 := by
  unfold fmtM
  rw [if_pos h]
  simp only [List.mem_append, not_or]
  refine ⟨fun hm => ?_, fun hm => ?_⟩
  · have := (objs_fmt h).2.2.1 44 hm
    revert this; decide
  · unfold fmtXs at hm
    obtain ⟨x, hx, hm⟩ := List.mem_flatMap.1 hm
    obtain ⟨c, s, d, v⟩ := x
    obtain ⟨h1, h2, h3⟩ := sessOk_in (h.mem hx)
    unfold fmtX at hm
    simp only [List.mem_append, List.mem_cons, List.not_mem_nil, or_false] at hm
    rcases hm with hm | hm | hm | hm | hm | hm
    · revert hm; decide
    · exact itoa_no (by omega) (by decide) hm
    · revert hm; decide
    · exact itoa_no (by omega) (by decide) hm
    · revert hm; cases d <;> decide
    · exact itoa_no (by omega) (by decide) hm
/-! ### a snapshot is read -/
/-- the program's words -/
def wordsN (l : List UInt8) : List (List UInt8) := Lib.splitK [44] 0 2 l
/-- what the specification reads -/
def nx (s : List UInt8) : Int := numL ((cuts 44 s).getD 0 [])
def ny (s : List UInt8) : Int := numL ((cuts 44 s).getD 1 [])
def nO (s : List UInt8) : List Int := parMO ((cuts 44 s).getD 2 [])
def nX (s : List UInt8) : List Sess := parMX ((cuts 44 s).getD 2 [])
def okPN (s : List UInt8) : Prop := (cuts 44 s).length = 3 ∧ fmtN (nx s) (ny s) (nO s) (nX s) = s
instance (s : List UInt8) : Decidable (okPN s) := inferInstanceAs (Decidable (_ ∧ _))
/-- ParseSnapshot's results -/
def parNok (s : List UInt8) : Bool := decide (okPN s)
def parNx (s : List UInt8) : Int := if okPN s then nx s else 0
def parNy (s : List UInt8) : Int := if okPN s then ny s else 0
def parNO (s : List UInt8) : List Int := if okPN s then nO s else []
def parNX (s : List UInt8) : List Sess := if okPN s then nX s else []
theorem parNO_len (s : List UInt8) : (parNO s).length ≤ 4194304 := by
  unfold parNO
  split
  · exact parMO_len _
  · simp
theorem parNX_len (s : List UInt8) : (parNX s).length ≤ 4194304 := by
  unfold parNX
  split
  · exact parMX_len _
  · simp
theorem parN_yes {s : List UInt8} (h : okPN s) : parNok s = true ∧ parNx s = nx s ∧ parNy s = ny s ∧ parNO s = nO s ∧ parNX s = nX s :=
  ⟨decide_eq_true h, if_pos h, if_pos h, if_pos h, if_pos h⟩
theorem parN_no {s : List UInt8} (h : ¬ okPN s) : parNok s = false ∧ parNx s = 0 ∧ parNy s = 0 ∧ parNO s = [] ∧ parNX s = [] :=
  ⟨decide_eq_false h, if_neg h, if_neg h, if_neg h, if_neg h⟩
theorem fmtN_join {x y : Int} {L1 : List Int} {L2 : List Sess} (h : NOk x y L1 L2) : fmtN x y L1 L2 = joinX 44 [Lib.itoa x, Lib.itoa y, fmtM L1 L2] := by
  unfold fmtN
  rw [if_pos h]
  simp [joinX]
theorem wordsN_no {x y : Int} {L1 : List Int} {L2 : List Sess} (h : NOk x y L1 L2) : ∀ p ∈ [Lib.itoa x, Lib.itoa y, fmtM L1 L2], (44 : UInt8) ∉ p := fun p hp => by
  obtain ⟨hx, hy, hm⟩ := h
  simp only [List.mem_cons, List.not_mem_nil, or_false] at hp
  rcases hp with rfl | rfl | rfl
  · exact itoa_no (by omega) (by decide)
  · exact itoa_no (by omega) (by decide)
  · exact fmtM_no hm
/-- the program's parts are right -/
def goodN (ws : List (List UInt8)) : Prop := ws.length = 3 ∧ allPar (ws.take 2) = true ∧ parMok (ws.getD 2 []) = true ∧ NOk (parN (ws.getD 0 [])) (parN (ws.getD 1 [])) (parMO (ws.getD 2 [])) (parMX (ws.getD 2 []))
theorem snap_yes {s : List UInt8} (h : goodN (wordsN s)) : okPN s ∧ nx s = parN ((wordsN s).getD 0 []) ∧ ny s = parN ((wordsN s).getD 1 []) ∧ nO s = parMO ((wordsN s).getD 2 []) ∧ nX s = parMX ((wordsN s).getD 2 []) := by
  have hj := join_split 44 2 s
  have hw : wordsN s = Lib.splitK [44] 0 2 s := rfl
  rw [← hw] at hj
  clear hw
  match hps : wordsN s, h with
  | [p0, p1, p2], ⟨_, ha, h2, hc⟩ =>
    rw [hps] at hj
    simp only [List.take_succ_cons, List.take_zero, allPar, List.all_cons, List.all_nil, Bool.and_true, Bool.and_eq_true, List.getD_cons_zero, List.getD_cons_succ] at ha h2 hc ⊢
    have hx := hc.1
    have hy := hc.2.1
    have f0 := itoa_par ha.1
    have f1 := itoa_par ha.2
    have f2 := mach_write h2
    have hno := wordsN_no hc
    rw [f0, f1, f2] at hno
    have hcut : cuts 44 s = [p0, p1, p2] := by rw [← hj]; exact cuts_join (by simp) hno
    have e0 : nx s = parN p0 := by unfold nx numL; rw [hcut]; simp only [List.getD_cons_zero]; rw [ha.1, decide_eq_true (show 0 ≤ parN p0 by omega)]; rfl
    have e1 : ny s = parN p1 := by unfold ny numL; rw [hcut]; simp only [List.getD_cons_zero, List.getD_cons_succ]; rw [ha.2, decide_eq_true (show 0 ≤ parN p1 by omega)]; rfl
    have e2 : nO s = parMO p2 := by unfold nO; rw [hcut]; rfl
    have e3 : nX s = parMX p2 := by unfold nX; rw [hcut]; rfl
    refine ⟨⟨by rw [hcut]; rfl, ?_⟩, e0, e1, e2, e3⟩
    rw [e0, e1, e2, e3, fmtN_join hc, f0, f1, f2, hj]
theorem snap_no {s : List UInt8} (h : ¬ goodN (wordsN s)) : ¬ okPN s := fun ⟨hl, hf⟩ => by
  apply h
  by_cases hc : NOk (nx s) (ny s) (nO s) (nX s)
  · have hno := wordsN_no hc
    have hx := hc.1
    have hy := hc.2.1
    have hm := hc.2.2
    rw [fmtN_join hc] at hf
    have hw : wordsN s = [Lib.itoa (nx s), Lib.itoa (ny s), fmtM (nO s) (nX s)] := by
      unfold wordsN
      conv => lhs; rw [← hf]
      exact split_join (by simp) hno (by simp)
    have p0 := par_itoa (n := nx s) (by omega) (by omega)
    have p1 := par_itoa (n := ny s) (by omega) (by omega)
    have p2 := mach_back hm
    rw [hw]
    refine ⟨rfl, ?_, ?_, ?_⟩
    · simp [allPar, p0.1, p1.1]
    · simp only [List.getD_cons_zero, List.getD_cons_succ]; exact p2.1
    · simp only [List.getD_cons_zero, List.getD_cons_succ]; rw [p0.2, p1.2, p2.2.1, p2.2.2]; exact ⟨hx, hy, hm⟩
  · exfalso
    have he : s = [] := by
      rw [← hf]
      unfold fmtN
      rw [if_neg hc]
    rw [he] at hl
    simp [cuts] at hl
/-- a snapshot is read back -/
theorem snap_back {x y : Int} {L1 : List Int} {L2 : List Sess} (h : NOk x y L1 L2) : parNok (fmtN x y L1 L2) = true ∧ parNx (fmtN x y L1 L2) = x ∧ parNy (fmtN x y L1 L2) = y ∧ parNO (fmtN x y L1 L2) = L1 ∧ parNX (fmtN x y L1 L2) = L2 := by
  have hno := wordsN_no h
  have hx := h.1
  have hy := h.2.1
  have hm := h.2.2
  have hw : wordsN (fmtN x y L1 L2) = [Lib.itoa x, Lib.itoa y, fmtM L1 L2] := by
    unfold wordsN
    rw [fmtN_join h]
    exact split_join (by simp) hno (by simp)
  have p0 := par_itoa (n := x) (by omega) (by omega)
  have p1 := par_itoa (n := y) (by omega) (by omega)
  have p2 := mach_back hm
  have hg : goodN (wordsN (fmtN x y L1 L2)) := by
    rw [hw]
    refine ⟨rfl, ?_, ?_, ?_⟩
    · simp [allPar, p0.1, p1.1]
    · simp only [List.getD_cons_zero, List.getD_cons_succ]; exact p2.1
    · simp only [List.getD_cons_zero, List.getD_cons_succ]; rw [p0.2, p1.2, p2.2.1, p2.2.2]; exact ⟨hx, hy, hm⟩
  obtain ⟨h1, e0, e1, e2, e3⟩ := snap_yes hg
  obtain ⟨r, r0, r1, r2, r3⟩ := parN_yes h1
  rw [hw] at e0 e1 e2 e3
  simp only [List.getD_cons_zero, List.getD_cons_succ] at e0 e1 e2 e3
  exact ⟨r, by rw [r0, e0, p0.2], by rw [r1, e1, p1.2], by rw [r2, e2, p2.2.1], by rw [r3, e3, p2.2.2]⟩
theorem snap_none : parNok [] = false := decide_eq_false (fun h => by have := h.1; simp [cuts] at this)
end Go.Proofs.YtibpajlfcknegaaDoor.kit
