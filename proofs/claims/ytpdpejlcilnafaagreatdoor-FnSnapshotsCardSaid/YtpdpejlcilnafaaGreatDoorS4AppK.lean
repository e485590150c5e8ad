/-
  Chapter 4: what impl's ApplyOp returns.
-/
import Derived.Test.YtpdpejlcilnafaaGreatDoorS4AppJ
import Derived.Test.YtpdpejlcilnafaaGreatDoorS4Short
namespace Go.Proofs.YtpdpejlcilnafaaGreatDoor.kit
open Go.ChangeShapes Go.WideShapes Go.ChangeAt Go.RowKit Go.Maps
set_option linter.unusedVariables false

theorem implApplyOp (b1 b2 : Nat) (v1 v2 : Value) (L1 : List Int) (L2 : List Sess) (c s k o d v : Int) (w : World) (h1 : L1.length ≤ 4194304) (h2 : L2.length ≤ 4194304) (o1 : OwnI b1 w v1 L1) (o2 : OwnS b2 w v2 L2) :
    Calls Tryz.prog 70 #[.agg #[v1, v2], opV c s k o d v] w fun e w' => ∃ u1 u2, e = .returned (.tuple #[.agg #[u1, u2], .agg #[.bool (appD L1 L2 c s k o d v), .int .i64 (appV L1 L2 c s k o d v)], .bool (appB L1 L2 c s k o d v)]) ∧
      OwnI w.heap.size w' u1 (appO L1 L2 c s k o d v) ∧ OwnS w.heap.size w' u2 (appS L1 L2 c s k o d v) ∧ Below w.heap.size w w' := by
  unfold appD appV appB appO appS
  cases hm : decide (MOk L1 L2) with
  | false =>
    have hn : appNew L1 L2 c s k o d v = false := by unfold appNew appOk; rw [hm]; simp
    have hsm : appSame L1 L2 c s k o d v = false := by unfold appSame appOk; rw [hm]; simp
    rw [hn, hsm]
    exact appI_noM b1 b2 v1 v2 L1 L2 c s k o d v w h1 h2 o1 o2 (Lib.hid hm)
  | true =>
    cases hv : okOp c s k o d v with
    | false =>
      have hn : appNew L1 L2 c s k o d v = false := by unfold appNew appOk; rw [hv]; simp
      have hsm : appSame L1 L2 c s k o d v = false := by unfold appSame appOk; rw [hv]; simp
      rw [hn, hsm]
      exact appI_noO b1 b2 v1 v2 L1 L2 c s k o d v w h1 h2 o1 o2 (Lib.hid hm) (Lib.hid hv)
    | true =>
      have hok : appOk L1 L2 c s k o d v = true := by unfold appOk; rw [hm, hv]; rfl
      have hM := of_decide_eq_true hm
      obtain ⟨hlen, hwf⟩ := sess_short hM.2.2
      have hpw := sessAsc_pair hM.2.2
      have hnd := pair_nodup hpw
      obtain ⟨hc, ho, hk⟩ := okOp_parts hv
      obtain ⟨n, rfl⟩ := Int.eq_ofNat_of_zero_le ho.1
      have hcw : (Lit.int .i64 c).wf = true := small_wf (by omega) (by omega)
      have hn3 : n < L1.length := by rw [hM.1]; omega
      cases hh : hasSess L2 c with
      | false =>
        have hn : appNew L1 L2 c s k n d v = true := by unfold appNew; rw [hok, hh]; rfl
        rw [hn]
        exact appI_first b1 b2 v1 v2 L1 L2 c s k d v _ _ n w h1 h2 (by omega) o1 o2 (Lib.hid hm) (Lib.hid hv) (Lib.hid hwf) (Lib.hid hcw) (Lib.hid hpw) (Lib.hid hnd) (Lib.hid hn3) (Lib.hid hk) (Lib.hid rfl) (Lib.hid rfl) (Lib.hid hh)
      | true =>
        obtain ⟨l1, l2, l3, l4, hs⟩ : ∃ l1 l2 l3 l4, sessOf L2 c = (l1, l2, l3, l4) := ⟨_, _, _, _, rfl⟩
        by_cases h3 : l2 > s
        · have hn : appNew L1 L2 c s k n d v = false := by
            unfold appNew; rw [hok, hh, hs]; simp; omega
          have hsm : appSame L1 L2 c s k n d v = false := by
            unfold appSame; rw [hok, hh, hs]; simp; omega
          rw [hn, hsm]
          exact appI_known b1 b2 v1 v2 L1 L2 c s k n d v w h1 h2 o1 o2 (Lib.hid hm) (Lib.hid hv) (Lib.hid hwf) (Lib.hid hcw) (Lib.hid hnd) l1 l2 l3 l4 (Lib.hid hh) (Lib.hid hs) (decide_eq_true h3)
        · by_cases h4 : l2 = s
          · have hn : appNew L1 L2 c s k n d v = false := by
              unfold appNew; rw [hok, hh, hs]; simp; omega
            have hsm : appSame L1 L2 c s k n d v = true := by
              unfold appSame; rw [hok, hh, hs]; simp [h4]
            rw [hn, hsm]
            have := appI_same b1 b2 v1 v2 L1 L2 c s k n d v w h1 h2 o1 o2 (Lib.hid hm) (Lib.hid hv) (Lib.hid hwf) (Lib.hid hcw) (Lib.hid hnd) l1 l2 l3 l4 (Lib.hid hh) (Lib.hid hs) (decide_eq_false h3) (by simpa using h4)
            rw [hs]
            exact this
          · have hn : appNew L1 L2 c s k n d v = true := by
              unfold appNew; rw [hok, hh, hs]; simp; omega
            rw [hn]
            exact appI_later b1 b2 v1 v2 L1 L2 c s k d v _ _ n w h1 h2 (by omega) o1 o2 (Lib.hid hm) (Lib.hid hv) (Lib.hid hwf) (Lib.hid hcw) (Lib.hid hpw) (Lib.hid hnd) (Lib.hid hn3) (Lib.hid hk) (Lib.hid rfl) (Lib.hid rfl) l1 l2 l3 l4 (Lib.hid hh) (Lib.hid hs) (decide_eq_false h3) (by simpa using h4)
end Go.Proofs.YtpdpejlcilnafaaGreatDoor.kit
