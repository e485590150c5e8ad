/-
  Chapter 8, plain lists: which configurations are valid; their members and roles; a configuration is read back from its format, by the specification's way (cut everywhere, write it again, compare) and by the program's (split at most three times, each part strictly read).
-/
import Derived.Test.YtmojigimlhjphaaDoorCuts
import Derived.Test.YtmojigimlhjphaaDoorS2Law
import Derived.Test.YtmojigimlhjphaaDoorS8Plain
namespace Go.Proofs.YtmojigimlhjphaaDoor.kit
set_option linter.unusedVariables false
set_option linter.unusedSimpArgs false

def fmtC (x y : Int) (L1 L2 : List Int) : List UInt8 :=
  if cfgOk x y L1 L2 = true then Lib.itoa x ++ ([32] ++ (Lib.itoa y ++ ([32] ++ (fmtS L1 ++ ([32] ++ fmtS L2))))) else []
theorem cfg_y {x y : Int} {L1 L2 : List Int} (h : CfgOk x y L1 L2) : 0 ≤ y ∧ y ≤ 4 := are_mem h.2.1 y h.2.2.2.1
/-! ### formats of sets -/
theorem fmtS_no (l : List Int) : (32 : UInt8) ∉ fmtS l := by
  unfold fmtS
  by_cases h : are l = true
  · rw [if_pos h]
    by_cases h0 : l.length = 0
    · rw [if_pos h0]; decide
    · rw [if_neg h0]
      intro hm
      unfold digs at hm
      obtain ⟨v, hv, e⟩ := List.mem_map.1 hm
      have hr := are_mem h v hv
      have e2 := congrArg UInt8.toNat e
      rw [UInt8.toNat_ofNat', Nat.mod_eq_of_lt (by omega)] at e2
      have : (32 : UInt8).toNat = 32 := rfl
      omega
  · rw [if_neg h]; simp
theorem fmt_parse {b : List UInt8} (h : parseSok b = true) : fmtS (parseS b) = b := by
  by_cases hn : b = [110, 111, 110, 101]
  · subst hn; decide
  · unfold parseSok at h
    rw [decide_eq_false hn, Bool.false_or] at h
    unfold parseS
    rw [if_pos h]
    unfold okB at h
    simp only [Bool.and_eq_true, decide_eq_true_eq] at h
    unfold fmtS
    rw [if_pos h.2, if_neg (by rw [vals_length]; intro e; exact h.1 (List.eq_nil_of_length_eq_zero e)), digs_vals h.2]
/-! ### a configuration is read -/
/-- the program's words -/
def wordsC (l : List UInt8) : List (List UInt8) := Lib.splitK [32] 0 3 l
/-- what the specification reads -/
def cx (s : List UInt8) : Int := numL ((cuts 32 s).getD 0 [])
def cy (s : List UInt8) : Int := numL ((cuts 32 s).getD 1 [])
def c1 (s : List UInt8) : List Int := parseS ((cuts 32 s).getD 2 [])
def c2 (s : List UInt8) : List Int := parseS ((cuts 32 s).getD 3 [])
def okPC (s : List UInt8) : Prop := (cuts 32 s).length = 4 ∧ fmtC (cx s) (cy s) (c1 s) (c2 s) = s
instance (s : List UInt8) : Decidable (okPC s) := inferInstanceAs (Decidable (_ ∧ _))
/-- ParseConfig's results -/
def parCok (s : List UInt8) : Bool := decide (okPC s)
def parCx (s : List UInt8) : Int := if okPC s then cx s else 0
def parCy (s : List UInt8) : Int := if okPC s then cy s else 0
def parC1 (s : List UInt8) : List Int := if okPC s then c1 s else []
def parC2 (s : List UInt8) : List Int := if okPC s then c2 s else []
theorem parC1_len (s : List UInt8) : (parC1 s).length ≤ 4194304 := by
  unfold parC1
  split
  · exact parseS_len _
  · simp
theorem parC2_len (s : List UInt8) : (parC2 s).length ≤ 4194304 := by
  unfold parC2
  split
  · exact parseS_len _
  · simp
theorem parC_yes {s : List UInt8} (h : okPC s) : parCok s = true ∧ parCx s = cx s ∧ parCy s = cy s ∧ parC1 s = c1 s ∧ parC2 s = c2 s :=
  ⟨decide_eq_true h, if_pos h, if_pos h, if_pos h, if_pos h⟩
theorem parC_no {s : List UInt8} (h : ¬ okPC s) : parCok s = false ∧ parCx s = 0 ∧ parCy s = 0 ∧ parC1 s = [] ∧ parC2 s = [] :=
  ⟨decide_eq_false h, if_neg h, if_neg h, if_neg h, if_neg h⟩
theorem fmtC_join {x y : Int} {L1 L2 : List Int} (h : CfgOk x y L1 L2) : fmtC x y L1 L2 = joinX 32 [Lib.itoa x, Lib.itoa y, fmtS L1, fmtS L2] := by
  unfold fmtC cfgOk
  rw [if_pos (decide_eq_true h)]
  simp [joinX]
theorem words_no {x y : Int} {L1 L2 : List Int} (h : CfgOk x y L1 L2) : ∀ p ∈ [Lib.itoa x, Lib.itoa y, fmtS L1, fmtS L2], (32 : UInt8) ∉ p := fun p hp => by
  have hy := cfg_y h
  have hx := h.1
  simp only [List.mem_cons, List.not_mem_nil, or_false] at hp
  rcases hp with rfl | rfl | rfl | rfl
  · exact itoa_no (by omega) (by decide)
  · exact itoa_no (by omega) (by decide)
  · exact fmtS_no _
  · exact fmtS_no _
/-- the program's parts are right -/
def goodC (ws : List (List UInt8)) : Prop := ws.length = 4 ∧ allPar (ws.take 2) = true ∧ parseSok (ws.getD 2 []) = true ∧ parseSok (ws.getD 3 []) = true ∧ CfgOk (parN (ws.getD 0 [])) (parN (ws.getD 1 [])) (parseS (ws.getD 2 [])) (parseS (ws.getD 3 []))
theorem conf_yes {s : List UInt8} (h : goodC (wordsC s)) : okPC s ∧ cx s = parN ((wordsC s).getD 0 []) ∧ cy s = parN ((wordsC s).getD 1 []) ∧ c1 s = parseS ((wordsC s).getD 2 []) ∧ c2 s = parseS ((wordsC s).getD 3 []) := by
  have hj := join_split 32 3 s
  have hw : wordsC s = Lib.splitK [32] 0 3 s := rfl
  rw [← hw] at hj
  clear hw
  match hps : wordsC s, h with
  | [p0, p1, p2, p3], ⟨_, ha, h2, h3, hc⟩ =>
    rw [hps] at hj
    simp only [List.take_succ_cons, List.take_zero, allPar, List.all_cons, List.all_nil, Bool.and_true, Bool.and_eq_true, List.getD_cons_zero, List.getD_cons_succ] at ha h2 h3 hc ⊢
    have hy := cfg_y hc
    have hx := hc.1
    have f0 := itoa_par ha.1
    have f1 := itoa_par ha.2
    have f2 := fmt_parse h2
    have f3 := fmt_parse h3
    have hno := words_no hc
    rw [f0, f1, f2, f3] at hno
    have hcut : cuts 32 s = [p0, p1, p2, p3] := by rw [← hj]; exact cuts_join (by simp) hno
    have e0 : cx s = parN p0 := by unfold cx numL; rw [hcut]; simp only [List.getD_cons_zero]; rw [ha.1, decide_eq_true (show 0 ≤ parN p0 by omega)]; rfl
    have e1 : cy s = parN p1 := by unfold cy numL; rw [hcut]; simp only [List.getD_cons_zero, List.getD_cons_succ]; rw [ha.2, decide_eq_true (show 0 ≤ parN p1 by omega)]; rfl
    have e2 : c1 s = parseS p2 := by unfold c1; rw [hcut]; rfl
    have e3 : c2 s = parseS p3 := by unfold c2; rw [hcut]; rfl
    refine ⟨⟨by rw [hcut]; rfl, ?_⟩, e0, e1, e2, e3⟩
    rw [e0, e1, e2, e3, fmtC_join hc, f0, f1, f2, f3, hj]
theorem conf_no {s : List UInt8} (h : ¬ goodC (wordsC s)) : ¬ okPC s := fun ⟨hl, hf⟩ => by
  apply h
  by_cases hc : CfgOk (cx s) (cy s) (c1 s) (c2 s)
  · have hno := words_no hc
    have hy := cfg_y hc
    have hx := hc.1
    rw [fmtC_join hc] at hf
    have hw : wordsC s = [Lib.itoa (cx s), Lib.itoa (cy s), fmtS (c1 s), fmtS (c2 s)] := by
      unfold wordsC
      conv => lhs; rw [← hf]
      exact split_join (by simp) hno (by simp)
    have p0 := par_itoa (n := cx s) (by omega) (by omega)
    have p1 := par_itoa (n := cy s) (by omega) (by omega)
    rw [hw]
    refine ⟨rfl, ?_, ?_, ?_, ?_⟩
    · simp [allPar, p0.1, p1.1]
    · simp only [List.getD_cons_zero, List.getD_cons_succ]; rw [parse_fmt_sok]; exact hc.2.1
    · simp only [List.getD_cons_zero, List.getD_cons_succ]; rw [parse_fmt_sok]; exact hc.2.2.1
    · simp only [List.getD_cons_zero, List.getD_cons_succ]; rw [p0.2, p1.2, parse_fmt hc.2.1, parse_fmt hc.2.2.1]; exact hc
  · exfalso
    have he : s = [] := by
      rw [← hf]
      unfold fmtC cfgOk
      rw [if_neg (by rw [decide_eq_false hc]; simp)]
    rw [he] at hl
    simp [cuts] at hl
/-- a configuration is read back -/
theorem conf_back {x y : Int} {L1 L2 : List Int} (h : CfgOk x y L1 L2) : parCok (fmtC x y L1 L2) = true ∧ parCx (fmtC x y L1 L2) = x ∧ parCy (fmtC x y L1 L2) = y ∧ parC1 (fmtC x y L1 L2) = L1 ∧ parC2 (fmtC x y L1 L2) = L2 := by
  have hno := words_no h
  have hy := cfg_y h
  have hx := h.1
  have hw : wordsC (fmtC x y L1 L2) = [Lib.itoa x, Lib.itoa y, fmtS L1, fmtS L2] := by
    unfold wordsC
    rw [fmtC_join h]
    exact split_join (by simp) hno (by simp)
  have p0 := par_itoa (n := x) (by omega) (by omega)
  have p1 := par_itoa (n := y) (by omega) (by omega)
  have hg : goodC (wordsC (fmtC x y L1 L2)) := by
    rw [hw]
    refine ⟨rfl, ?_, ?_, ?_, ?_⟩
    · simp [allPar, p0.1, p1.1]
    · simp only [List.getD_cons_zero, List.getD_cons_succ]; rw [parse_fmt_sok]; exact h.2.1
    · simp only [List.getD_cons_zero, List.getD_cons_succ]; rw [parse_fmt_sok]; exact h.2.2.1
    · simp only [List.getD_cons_zero, List.getD_cons_succ]; rw [p0.2, p1.2, parse_fmt h.2.1, parse_fmt h.2.2.1]; exact h
  obtain ⟨h1, e0, e1, e2, e3⟩ := conf_yes hg
  obtain ⟨r, r0, r1, r2, r3⟩ := parC_yes h1
  rw [hw] at e0 e1 e2 e3
  simp only [List.getD_cons_zero, List.getD_cons_succ] at e0 e1 e2 e3
  exact ⟨r, by rw [r0, e0, p0.2], by rw [r1, e1, p1.2], by rw [r2, e2, parse_fmt h.2.1], by rw [r3, e3, parse_fmt h.2.2.1]⟩
end Go.Proofs.YtmojigimlhjphaaDoor.kit
