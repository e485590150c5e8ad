/-
  Chapter 4, plain lists: a machine is read back from its format, by the specification's way (cut everywhere, write it again, compare) and by the program's (split at most three times, each part strictly read).
-/
import Derived.Test.YtibpajlfcknegaaDoorCuts
import Derived.Test.YtibpajlfcknegaaDoorS4Fmt
import Derived.Lib.IndexAny
namespace Go.Proofs.YtibpajlfcknegaaDoor.kit
set_option linter.unusedVariables false
set_option linter.unusedSimpArgs false

def digV (b : UInt8) : Int := (b.toNat : Int) - 48
def digB (v : Int) : UInt8 := UInt8.ofNat (48 + v.toNat)
theorem ten {v : Int} (h : 0 ≤ v ∧ v ≤ 9) : v = 0 ∨ v = 1 ∨ v = 2 ∨ v = 3 ∨ v = 4 ∨ v = 5 ∨ v = 6 ∨ v = 7 ∨ v = 8 ∨ v = 9 := by omega
theorem itoa_dig {v : Int} (h : 0 ≤ v ∧ v ≤ 9) : Lib.itoa v = [digB v] := by
  unfold Lib.itoa; rw [if_neg (by omega)]; exact decDigits_small (by omega)
theorem digV_digB {v : Int} (h : 0 ≤ v ∧ v ≤ 9) : digV (digB v) = v := by
  rcases ten h with rfl | rfl | rfl | rfl | rfl | rfl | rfl | rfl | rfl | rfl <;> rfl
theorem isDig_digB {v : Int} (h : 0 ≤ v ∧ v ≤ 9) : isDig (digB v) = true := by
  rcases ten h with rfl | rfl | rfl | rfl | rfl | rfl | rfl | rfl | rfl | rfl <;> rfl
theorem digB_digV {b : UInt8} (h : isDig b = true) : digB (digV b) = b := by
  have := of_decide_eq_true h
  unfold digB digV
  rw [show 48 + ((b.toNat : Int) - 48).toNat = b.toNat by omega]
  simp
theorem isDig_in {b : UInt8} (h : isDig b = true) : 0 ≤ digV b ∧ digV b ≤ 9 := by
  have := of_decide_eq_true h
  unfold digV
  omega
/-- the objects, read loosely -/
def looseO (p : List UInt8) : List Int := (p.take 9).map digV
theorem three {α : Type} {L : List α} (h : L.length = 3) : ∃ a b c, L = [a, b, c] := by
  match L, h with
  | [a, b, c], _ => exact ⟨a, b, c, rfl⟩
theorem objs_fmt {L1 : List Int} {L2 : List Sess} (h : MOk L1 L2) : (fmtOs L1).length = 3 ∧ looseO (fmtOs L1) = L1 ∧ (∀ b ∈ fmtOs L1, isDig b = true) ∧ (fmtOs L1).map digV = L1 := by
  obtain ⟨a, b, c, rfl⟩ := three h.1
  have ha := okV_in' (h.2.1 0 (by simp))
  have hb := okV_in' (h.2.1 1 (by simp))
  have hc := okV_in' (h.2.1 2 (by simp))
  simp only [List.getD_cons_zero, List.getD_cons_succ] at ha hb hc
  have e : fmtOs [a, b, c] = [digB a, digB b, digB c] := by simp [fmtOs, itoa_dig ha, itoa_dig hb, itoa_dig hc]
  rw [e]
  refine ⟨rfl, ?_, ?_, ?_⟩
  · simp [looseO, digV_digB ha, digV_digB hb, digV_digB hc]
  · intro x hx
    simp only [List.mem_cons, List.not_mem_nil, or_false] at hx
    rcases hx with rfl | rfl | rfl
    · exact isDig_digB ha
    · exact isDig_digB hb
    · exact isDig_digB hc
  · simp [digV_digB ha, digV_digB hb, digV_digB hc]
theorem objs_sound {p : List UInt8} (h3 : p.length = 3) (hd : ∀ b ∈ p, isDig b = true) : fmtOs (p.map digV) = p := by
  obtain ⟨a, b, c, rfl⟩ := three h3
  have ha := hd a (by simp)
  have hb := hd b (by simp)
  have hc := hd c (by simp)
  simp [fmtOs, itoa_dig (isDig_in ha), itoa_dig (isDig_in hb), itoa_dig (isDig_in hc), digB_digV ha, digB_digV hb, digB_digV hc]
theorem isDig_no {p : List UInt8} (hd : ∀ b ∈ p, isDig b = true) : (32 : UInt8) ∉ p := fun h => by have := hd 32 h; revert this; decide
/-- what the program's reader of objects may answer -/
def ObjI (p : List UInt8) (O : List Int) : Prop := (p.length = 3 ∧ (∀ b ∈ p, isDig b = true) ∧ O = p.map digV) ∨ (¬ (p.length = 3 ∧ ∀ b ∈ p, isDig b = true) ∧ ∀ L2, ¬ MOk O L2)
/-- a session, read loosely -/
def looseX (p : List UInt8) : Sess :=
  if p.length < 5 ∨ p.getD 1 0 ≠ 46 then (-1, 0, false, 0) else (digV (p.getD 0 0), numL ((p.drop 2).take (p.length - 4)), p.getD (p.length - 2) 0 == 43, digV (p.getD (p.length - 1) 0))
theorem sgn_back (d : Bool) : (sgn d == 43) = d := by cases d <;> rfl
theorem itoa_pos {n : Int} (h0 : 0 ≤ n) (h1 : n < 1000000000) : 0 < (Lib.itoa n).length := by
  rcases Nat.eq_zero_or_pos (Lib.itoa n).length with h | h
  · have e := List.eq_nil_of_length_eq_zero h
    have := (par_itoa h0 h1).1
    rw [e, par_nil] at this
    cases this
  · exact h
theorem fmtX_form {x : Sess} (h : sessOk x = true) : fmtX x = digB x.1 :: 46 :: (Lib.itoa x.2.1 ++ [sgn x.2.2.1, digB x.2.2.2]) := by
  obtain ⟨c, s, d, v⟩ := x
  obtain ⟨h1, h2, h3⟩ := sessOk_in h
  simp only [fmtX, itoa_dig (show 0 ≤ c ∧ c ≤ 9 by omega), itoa_dig h3]
  simp
theorem looseX_fmt {x : Sess} (h : sessOk x = true) : looseX (fmtX x) = x := by
  have hf := fmtX_form h
  obtain ⟨c, s, d, v⟩ := x
  obtain ⟨h1, h2, h3⟩ := sessOk_in h
  simp only at hf
  have hp := itoa_pos (n := s) (by omega) (by omega)
  have hn := num_itoa (n := s) (by omega) (by omega)
  rw [hf]
  generalize Lib.itoa s = q at *
  have hl : (digB c :: 46 :: (q ++ [sgn d, digB v])).length = q.length + 4 := by simp
  unfold looseX
  rw [hl, if_neg (by simp; omega)]
  have e1 : ((digB c :: 46 :: (q ++ [sgn d, digB v])).drop 2).take (q.length + 4 - 4) = q := by simp
  have e2 : (digB c :: 46 :: (q ++ [sgn d, digB v])).getD (q.length + 4 - 2) 0 = sgn d := by
    rw [show q.length + 4 - 2 = q.length + 1 + 1 by omega, List.getD_cons_succ, List.getD_cons_succ]
    simp [List.getD]
  have e3 : (digB c :: 46 :: (q ++ [sgn d, digB v])).getD (q.length + 4 - 1) 0 = digB v := by
    rw [show q.length + 4 - 1 = (q.length + 1) + 1 + 1 by omega, List.getD_cons_succ, List.getD_cons_succ]
    simp [List.getD]
  rw [e1, e2, e3, hn, sgn_back, List.getD_cons_zero, digV_digB (by omega), digV_digB h3]
/-- a session, read strictly -/
def restX (p : List UInt8) : List UInt8 := (Lib.cut p [46]).2.1
def signX (p : List UInt8) : Int := Lib.indexAny (restX p) [43, 45]
def pxOk (p : List UInt8) : Bool := decide (0 ≤ signX p) && (parOk (Lib.cut p [46]).1 && (parOk ((restX p).take (signX p).toNat) && parOk ((restX p).drop ((signX p).toNat + 1))))
def px (p : List UInt8) : Sess := (parN (Lib.cut p [46]).1, parN ((restX p).take (signX p).toNat), (restX p).getD (signX p).toNat 0 == 43, parN ((restX p).drop ((signX p).toNat + 1)))
theorem any_app : ∀ {q r : List UInt8} {b : UInt8}, (43 : UInt8) ∉ q → (45 : UInt8) ∉ q → (b = 43 ∨ b = 45) → Lib.indexAny (q ++ b :: r) [43, 45] = (q.length : Int)
  | [], r, b, _, _, hb => by
    rcases hb with rfl | rfl <;> rfl
  | a :: q, r, b, h1, h2, hb => by
    have ih := any_app (r := r) (fun h => h1 (List.mem_cons_of_mem _ h)) (fun h => h2 (List.mem_cons_of_mem _ h)) hb
    have n1 : a ≠ 43 := fun e => h1 (by simp [e])
    have n2 : a ≠ 45 := fun e => h2 (by simp [e])
    have hc : ([43, 45] : List UInt8).contains a = false := by simp [n1, n2]
    rw [List.cons_append, Lib.indexAny, hc, ih]
    have : ((q.length : Int) == -1) = false := by rw [beq_eq_false_iff_ne]; omega
    simp [this]
theorem any_at : ∀ {l : List UInt8}, 0 ≤ Lib.indexAny l [43, 45] → ∃ k : Nat, Lib.indexAny l [43, 45] = (k : Int) ∧ k < l.length ∧ (l.getD k 0 = 43 ∨ l.getD k 0 = 45)
  | [], h => by simp [Lib.indexAny] at h
  | a :: l, h => by
    rw [Lib.indexAny] at h ⊢
    by_cases hc : ([43, 45] : List UInt8).contains a = true
    · rw [if_pos hc]
      refine ⟨0, rfl, by simp, ?_⟩
      simpa using hc
    · rw [if_neg hc] at h ⊢
      by_cases hm : (Lib.indexAny l [43, 45] == -1) = true
      · rw [if_pos hm] at h; omega
      · rw [if_neg hm] at h ⊢
        have hg := Lib.indexAny_ge [43, 45] l
        have hne : Lib.indexAny l [43, 45] ≠ -1 := by simpa using hm
        obtain ⟨k, e, hk, hb⟩ := any_at (l := l) (by omega)
        exact ⟨k + 1, by rw [e]; omega, by simp; omega, by simpa using hb⟩
theorem px_fmt {x : Sess} (h : sessOk x = true) : pxOk (fmtX x) = true ∧ px (fmtX x) = x := by
  obtain ⟨c, s, d, v⟩ := x
  obtain ⟨h1, h2, h3⟩ := sessOk_in h
  have e : Lib.cut (fmtX (c, s, d, v)) [46] = (Lib.itoa c, Lib.itoa s ++ sgn d :: Lib.itoa v, true) := by
    unfold fmtX
    simp only [List.singleton_append]
    rw [cut_app (itoa_no (by omega) (by decide))]
  have hk : Lib.indexAny (Lib.itoa s ++ sgn d :: Lib.itoa v) [43, 45] = ((Lib.itoa s).length : Int) := any_app (itoa_no (by omega) (by decide)) (itoa_no (by omega) (by decide)) (by cases d <;> simp [sgn])
  have pc := par_itoa (n := c) (by omega) (by omega)
  have ps := par_itoa (n := s) (by omega) (by omega)
  have pv := par_itoa (n := v) (by omega) (by omega)
  unfold pxOk px signX restX
  rw [e]
  simp only
  rw [hk, Int.toNat_natCast]
  have t1 : (Lib.itoa s ++ sgn d :: Lib.itoa v).take (Lib.itoa s).length = Lib.itoa s := by simp
  have t2 : (Lib.itoa s ++ sgn d :: Lib.itoa v).drop ((Lib.itoa s).length + 1) = Lib.itoa v := by
    rw [← List.drop_drop]
    simp
  have t3 : (Lib.itoa s ++ sgn d :: Lib.itoa v).getD (Lib.itoa s).length 0 = sgn d := by simp [List.getD]
  rw [t1, t2, t3, pc.1, pc.2, ps.1, ps.2, pv.1, pv.2, sgn_back]
  refine ⟨by simp, rfl⟩
theorem px_sound {p : List UInt8} (h : pxOk p = true) : fmtX (px p) = p := by
  unfold pxOk at h
  simp only [Bool.and_eq_true, decide_eq_true_eq] at h
  obtain ⟨h0, hc, hs, hv⟩ := h
  obtain ⟨k, hk, hkl, hb⟩ := any_at h0
  have hk' : (signX p).toNat = k := by unfold signX; rw [hk]; simp
  rw [hk'] at hs hv
  unfold fmtX px
  simp only
  rw [hk', itoa_par hc, itoa_par hs, itoa_par hv]
  have hsg : sgn ((restX p).getD k 0 == 43) = (restX p).getD k 0 := by
    rcases hb with e | e <;> rw [e] <;> rfl
  rw [hsg]
  have hr : (restX p).take k ++ ([(restX p).getD k 0] ++ (restX p).drop (k + 1)) = restX p := by
    have e2 : (restX p).getD k 0 = (restX p)[k] := by simp [List.getD, hkl]
    rw [e2, List.singleton_append, List.getElem_cons_drop, List.take_append_drop]
  rw [hr]
  rcases first_x 46 p with hn | ⟨a, r, ha, rfl⟩
  · exfalso
    have e : restX p = [] := by unfold restX; rw [cut_none hn]
    rw [e] at hkl
    simp at hkl
  · have e : Lib.cut (a ++ 46 :: r) [46] = (a, r, true) := cut_app ha
    unfold restX
    rw [e]
    simp
theorem fmtX_no {x : Sess} (h : sessOk x = true) : (32 : UInt8) ∉ fmtX x := by
  obtain ⟨c, s, d, v⟩ := x
  obtain ⟨h1, h2, h3⟩ := sessOk_in h
  unfold fmtX
  simp only [List.mem_append, List.mem_cons, List.not_mem_nil, or_false, not_or]
  refine ⟨itoa_no (by omega) (by decide), by decide, itoa_no (by omega) (by decide), ?_, itoa_no (by omega) (by decide)⟩
  cases d <;> decide
/-- the program's words -/
def wsI (l : List UInt8) : List (List UInt8) := Lib.splitK [32] 0 3 l
/-- what the specification reads -/
def looseOs (s : List UInt8) : List Int := looseO ((cuts 32 s).getD 0 [])
def looseXs (s : List UInt8) : List Sess := (((cuts 32 s).drop 1).take 8).map looseX
def okPM (s : List UInt8) : Prop := s ≠ [] ∧ fmtM (looseOs s) (looseXs s) = s
instance (s : List UInt8) : Decidable (okPM s) := inferInstanceAs (Decidable (_ ∧ _))
/-- ParseMachine's results -/
def parMok (s : List UInt8) : Bool := decide (okPM s)
def parMO (s : List UInt8) : List Int := if okPM s then looseOs s else []
def parMX (s : List UInt8) : List Sess := if okPM s then looseXs s else []
theorem looseOs_len (s : List UInt8) : (looseOs s).length ≤ 9 := by unfold looseOs looseO; rw [List.length_map, List.length_take]; omega
theorem looseXs_len (s : List UInt8) : (looseXs s).length ≤ 8 := by unfold looseXs; rw [List.length_map, List.length_take]; omega
theorem parMO_len (s : List UInt8) : (parMO s).length ≤ 4194304 := by
  have := looseOs_len s
  unfold parMO
  split
  · omega
  · simp
theorem parMX_len (s : List UInt8) : (parMX s).length ≤ 4194304 := by
  have := looseXs_len s
  unfold parMX
  split
  · omega
  · simp
theorem joinX_flat (x : UInt8) : ∀ (l : List (List UInt8)) (a : List UInt8), joinX x (a :: l) = a ++ l.flatMap fun p => x :: p
  | [], a => by simp [joinX]
  | b :: l, a => by
    have e : joinX x (a :: b :: l) = a ++ x :: joinX x (b :: l) := by simp [joinX]
    rw [e, joinX_flat x l b]
    simp
theorem fmtM_join {L1 : List Int} {L2 : List Sess} (h : MOk L1 L2) : fmtM L1 L2 = joinX 32 (fmtOs L1 :: L2.map fmtX) := by
  unfold fmtM
  rw [if_pos h, joinX_flat]
  unfold fmtXs
  rw [List.flatMap_map]
  rfl
theorem MOk.client {L1 : List Int} {L2 : List Sess} (h : MOk L1 L2) : ∀ j : Nat, j < L2.length → (j : Int) ≤ (sg L2 j).1 := by
  intro j
  induction j with
  | zero =>
    intro hj
    have := (h.2.2 0 hj).1
    unfold sessOk at this
    simp only [Bool.and_eq_true] at this
    have := okC_in' this.1
    simp; omega
  | succ j ih =>
    intro hj
    have h1 := ih (by omega)
    have h2 := (h.2.2 (j + 1) hj).2 (by omega)
    rw [Nat.add_sub_cancel] at h2
    omega
theorem MOk.len {L1 : List Int} {L2 : List Sess} (h : MOk L1 L2) : L2.length ≤ 3 := by
  rcases Nat.lt_or_ge 3 L2.length with hl | hl
  · have h1 := h.client 3 hl
    have := (h.2.2 3 hl).1
    unfold sessOk at this
    simp only [Bool.and_eq_true] at this
    have := okC_in' this.1
    omega
  · exact hl
theorem MOk.mem {L1 : List Int} {L2 : List Sess} (h : MOk L1 L2) {x : Sess} (hx : x ∈ L2) : sessOk x = true := by
  obtain ⟨j, hj, rfl⟩ := List.mem_iff_getElem.1 hx
  have := (h.2.2 j hj).1
  rwa [sg_eq hj] at this
theorem machine_yes {s : List UInt8} {O : List Int} (hO : ObjI ((wsI s).getD 0 []) O) (h1 : ∀ p ∈ (wsI s).drop 1, pxOk p = true) (h2 : MOk O (((wsI s).drop 1).map px)) :
    parMok s = true ∧ parMO s = O ∧ parMX s = ((wsI s).drop 1).map px := by
  have hj := join_split 32 3 s
  have hp := split_pos 32 3 s
  have hw : wsI s = Lib.splitK [32] 0 3 s := rfl
  rw [← hw] at hj hp
  rcases hO with ⟨h3, hd, hE⟩ | ⟨_, hno⟩
  case inr => exact absurd h2 (hno _)
  have hs0 : s ≠ [] := fun e => by
    have e2 : wsI s = [[]] := by rw [hw, e]; exact split_none (by simp) 3
    rw [e2] at h3
    simp at h3
  clear hw
  match hps : wsI s, hp with
  | p0 :: rest, _ =>
    rw [hps] at h1 h2 hj h3 hd hE
    simp only [List.drop_succ_cons, List.drop_zero, List.getD_cons_zero] at h1 h2 h3 hd hE ⊢
    have hfo : fmtOs O = p0 := by rw [hE]; exact objs_sound h3 hd
    have hfx : (rest.map px).map fmtX = rest := by
      rw [List.map_map]
      conv => rhs; rw [← List.map_id rest]
      exact List.map_congr_left (fun p hpm => px_sound (h1 p hpm))
    have hf : fmtM O (rest.map px) = s := by rw [fmtM_join h2, hfo, hfx, hj]
    have hno : ∀ p ∈ p0 :: rest, (32 : UInt8) ∉ p := fun p hpm => by
      rcases List.mem_cons.1 hpm with rfl | hpm
      · exact isDig_no hd
      · have := fmtX_no (h2.mem (List.mem_map_of_mem (f := px) hpm))
        rwa [px_sound (h1 p hpm)] at this
    have hc : cuts 32 s = p0 :: rest := by rw [← hj]; exact cuts_join (by simp) hno
    have hl := h2.len
    rw [List.length_map] at hl
    have ho : looseOs s = O := by
      unfold looseOs
      rw [hc, List.getD_cons_zero, ← hfo]
      exact (objs_fmt h2).2.1
    have hx : looseXs s = rest.map px := by
      unfold looseXs
      rw [hc, List.drop_succ_cons, List.drop_zero, List.take_of_length_le (by omega)]
      refine List.map_congr_left (fun p hpm => ?_)
      have := looseX_fmt (h2.mem (List.mem_map_of_mem (f := px) hpm))
      rwa [px_sound (h1 p hpm)] at this
    have hok : okPM s := ⟨hs0, by rw [ho, hx]; exact hf⟩
    refine ⟨decide_eq_true hok, ?_, ?_⟩
    · unfold parMO; rw [if_pos hok, ho]
    · unfold parMX; rw [if_pos hok, hx]
theorem machine_no {s : List UInt8} {O : List Int} (hO : ObjI ((wsI s).getD 0 []) O) (h : ¬ ((∀ p ∈ (wsI s).drop 1, pxOk p = true) ∧ MOk O (((wsI s).drop 1).map px))) :
    parMok s = false ∧ parMO s = [] ∧ parMX s = [] := by
  have hno : ¬ okPM s := fun hok => by
    obtain ⟨hs0, hf⟩ := hok
    have hM : MOk (looseOs s) (looseXs s) := by
      by_cases hM : MOk (looseOs s) (looseXs s)
      · exact hM
      · exfalso
        apply hs0
        rw [← hf]
        unfold fmtM
        rw [if_neg hM]
    rw [fmtM_join hM] at hf
    have hob := objs_fmt hM
    have hl := hM.len
    have hw : wsI s = fmtOs (looseOs s) :: (looseXs s).map fmtX := by
      unfold wsI
      conv => lhs; rw [← hf]
      refine split_join (by simp) (fun p hp => ?_) (by simp; omega)
      rcases List.mem_cons.1 hp with rfl | hp
      · exact isDig_no hob.2.2.1
      · obtain ⟨x, hx, rfl⟩ := List.mem_map.1 hp
        exact fmtX_no (hM.mem hx)
    rw [hw] at h hO
    simp only [List.drop_succ_cons, List.drop_zero, List.getD_cons_zero] at h hO
    have hpx : ((looseXs s).map fmtX).map px = looseXs s := by
      rw [List.map_map]
      conv => rhs; rw [← List.map_id (looseXs s)]
      exact List.map_congr_left (fun x hx => (px_fmt (hM.mem hx)).2)
    have hE : O = looseOs s := by
      rcases hO with ⟨_, _, e⟩ | ⟨hn, _⟩
      · rw [e, hob.2.2.2]
      · exact absurd ⟨hob.1, hob.2.2.1⟩ hn
    refine h ⟨fun p hp => ?_, ?_⟩
    · obtain ⟨x, hx, rfl⟩ := List.mem_map.1 hp
      exact (px_fmt (hM.mem hx)).1
    · rw [hpx, hE]; exact hM
  refine ⟨decide_eq_false hno, ?_, ?_⟩
  · unfold parMO; rw [if_neg hno]
  · unfold parMX; rw [if_neg hno]
end Go.Proofs.YtibpajlfcknegaaDoor.kit
