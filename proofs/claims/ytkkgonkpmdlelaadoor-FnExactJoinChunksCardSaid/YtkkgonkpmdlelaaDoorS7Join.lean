/-
  Chapter 7: what spec's and impl's JoinChunks return.
-/
import Derived.Test.YtkkgonkpmdlelaaDoorS7Parse
import Derived.Test.YtkkgonkpmdlelaaDoorS4Fmt
import Derived.Test.YtkkgonkpmdlelaaDoorTxts
namespace Go.Proofs.YtkkgonkpmdlelaaDoor.kit
open Go.ChangeShapes Go.WideShapes Go.ChangeAt Go.RowKit
set_option linter.unusedVariables false
set_option linter.unusedSimpArgs false

theorem rd_len (s : List UInt8) : (readC s).2.2.1.length ≤ s.length := by
  rcases readC_cases s with ⟨h, _⟩ | ⟨i, n, d, hr, h⟩
  · rw [h]; simp
  · rw [h]
    have := congrArg List.length hr.form
    simp at this
    simp only
    omega
noncomputable def rdAt (L : List ByteArray) (j : Nat) : Int × Int × List UInt8 × Bool := readC (L.getD j .empty).data.toList
def jOk (L : List ByteArray) (t : Int) (k : Nat) : Prop := ∀ j, j < k → (rdAt L j).2.2.2 = true ∧ (rdAt L j).1 = (j : Int) ∧ (rdAt L j).2.1 = t
/-- the data of the first k chunks -/
noncomputable def jDat (L : List ByteArray) : Nat → List UInt8
  | 0 => []
  | k + 1 => jDat L k ++ (rdAt L k).2.2.1
theorem jDat_len (L : List ByteArray) : ∀ k, (jDat L k).length ≤ sumW L k
  | 0 => Nat.le_refl _
  | k + 1 => by
    have := jDat_len L k
    have h := rd_len (L.getD k .empty).data.toList
    rw [toL_len] at h
    show (jDat L k ++ (rdAt L k).2.2.1).length ≤ sumW L k + (L.getD k .empty).size
    rw [List.length_append]
    unfold rdAt
    omega
noncomputable def joinOk (L : List ByteArray) (t : Int) : Bool := open Classical in decide (jOk L t L.length ∧ (L.length : Int) = t ∧ 1 ≤ t)
noncomputable def joinS (L : List ByteArray) (t : Int) : List UInt8 := if joinOk L t = true then jDat L L.length else []
theorem join_no {L : List ByteArray} {t : Int} (h : ¬ (jOk L t L.length ∧ (L.length : Int) = t ∧ 1 ≤ t)) : joinOk L t = false ∧ joinS L t = [] := by
  have e : joinOk L t = false := by unfold joinOk; simp only [decide_eq_false_iff_not]; exact h
  exact ⟨e, by unfold joinS; rw [e]; rfl⟩
theorem join_yes {L : List ByteArray} {t : Int} (h : jOk L t L.length ∧ (L.length : Int) = t ∧ 1 ≤ t) : joinOk L t = true ∧ joinS L t = jDat L L.length := by
  have e : joinOk L t = true := by unfold joinOk; simp only [decide_eq_true_eq]; exact h
  exact ⟨e, by unfold joinS; rw [e]; rfl⟩
theorem join_bad {L : List ByteArray} {t : Int} {k : Nat} (h : k < L.length) (hk : ¬ ((rdAt L k).2.2.2 = true ∧ (rdAt L k).1 = (k : Int) ∧ (rdAt L k).2.1 = t)) : joinOk L t = false ∧ joinS L t = [] := join_no (fun hh => hk (hh.1 k h))
theorem jOk_succ {L : List ByteArray} {t : Int} {k : Nat} (h : jOk L t k) (hk : (rdAt L k).2.2.2 = true ∧ (rdAt L k).1 = (k : Int) ∧ (rdAt L k).2.1 = t) : jOk L t (k + 1) := fun j hj => by
  by_cases e : j = k
  · rw [e]; exact hk
  · exact h j (by omega)
set_option maxRecDepth 100000 in
set_option maxHeartbeats 4000000 in
theorem specJoinChunks (b : Nat) (v : Value) (l : List ByteArray) (t : Int) (w : World) (h : l.length ≤ 4194304) (hs : sumW l l.length ≤ 1048576) (o : OwnW b w v l) :
    Calls Tryd.prog 38 #[v, .int .i64 t] w fun e w' => e = .returned (.tuple #[.string ⟨(joinS l t).toArray⟩, .bool (joinOk l t)]) ∧ Below w.heap.size w w' := by
  obtain ⟨a, c, rfl, _, _, ha, _⟩ := o.form
  have HA := Lib.hid ha
  clear o ha
  go_enter Tryd.func38, Tryd.ntmps38
  go_wp2_with fail
  go_loopw [6, 7] (fun s i wr => ∃ k : Nat, k ≤ l.length ∧ i = .int .i64 k ∧ s = str (jDat l k) ∧ Hid (jOk l t k) ∧ Hid (Below w.heap.size w wr)) (fun _ i _ => l.length - (intOf i).toNat)
  case atStart => exact ⟨0, Nat.zero_le _, rfl, rfl, Lib.hid (fun j hj => by omega), Lib.hid (Below.refl _ _)⟩
  case round =>
    obtain ⟨k, hk, rfl, rfl, HJ, HB⟩ := hrel
    by_cases hlt : k < l.length
    · obtain ⟨x, rfl, hx, hc⟩ := (HA.out.later HB.out) k hlt
      have hsz := sumW_at l hlt
      have hjl := jDat_len l k
      have hmo := sumW_mono l (show k + 1 ≤ l.length from hlt)
      have hsu : sumW l (k + 1) = sumW l k + (l.getD k .empty).size := rfl
      have hrl := rd_len (l.getD k .empty).data.toList
      have J := Lib.hid (specRead (l.getD k .empty) wr (by omega))
      have HX := Lib.hid (show jDat l (k + 1) = jDat l k ++ (rdAt l k).2.2.1 from rfl)
      have HBAD := Lib.hid (fun hk => join_bad (t := t) hlt hk)
      have HSUC := Lib.hid (fun hk => jOk_succ HJ.out hk)
      rw [toL_len] at hrl
      obtain ⟨ra, rb, rd, rk, hr⟩ : ∃ ra rb rd rk, rdAt l k = (ra, rb, rd, rk) := ⟨_, _, _, _, rfl⟩
      have hr' : readC (l.getD k .empty).data.toList = (ra, rb, rd, rk) := hr
      rw [hr] at HX HBAD HSUC
      unfold rdT at J
      rw [hr'] at J hrl
      simp only at J HX HBAD HSUC hrl
      have hll : ¬ (9223372036854775807 < (jDat l k).length + rd.length) := by omega
      clear hr hr' hsz hjl hmo hsu hrl
      generalize l.getD k .empty = y at *
      generalize jDat l k = dk at *
      have k3 : (0 : Int) ≤ (k : Int) := by omega
      have k5 : (k : Int) < (l.length : Int) := by omega
      go_wp2_with fail
      refine J.out.mono ?_
      rintro e w1 ⟨rfl, hb⟩
      have HB1 := Lib.hid (HB.out.trans (hb.mono HB.out.size))
      clear hb J
      by_cases hq : rk = true ∧ ra = (k : Int) ∧ rb = t
      · obtain ⟨rfl, rfl, rfl⟩ := hq
        have t1 : ((k : Int) != (k : Int)) = false := by simp
        have t2 : (rb != rb) = false := by simp
        go_wp2_with fail
        go_roundw
        case rel => exact ⟨k + 1, by omega, by go_num, by rw [HX.out]; exact congrArg Value.string (by apply ByteArray.ext; apply Array.ext'; simp), Lib.hid (HSUC.out (by simp)), HB1⟩
        case measure => simp [intOf]; omega
      · have HF := Lib.hid (HBAD.out hq)
        cases rk with
        | false =>
          clear hq
          go_wp2_with fail
          refine bodyPost_ret (v := .tuple #[str [], .bool false]) (by simp [results, Tryd.results38, go_sem]) rfl ?_
          exact ⟨by rw [HF.out.1, HF.out.2], HB1.out⟩
        | true =>
          by_cases h1 : ra = (k : Int)
          · have t1 : (ra != (k : Int)) = false := by rw [h1]; simp
            have t2 : (rb != t) = true := by rw [bne_iff_ne]; exact fun h2 => hq ⟨rfl, h1, h2⟩
            clear hq h1
            go_wp2_with fail
            refine bodyPost_ret (v := .tuple #[str [], .bool false]) (by simp [results, Tryd.results38, go_sem]) rfl ?_
            exact ⟨by rw [HF.out.1, HF.out.2], HB1.out⟩
          · have t1 : (ra != (k : Int)) = true := by rw [bne_iff_ne]; exact h1
            clear hq h1
            go_wp2_with fail
            refine bodyPost_ret (v := .tuple #[str [], .bool false]) (by simp [results, Tryd.results38, go_sem]) rfl ?_
            exact ⟨by rw [HF.out.1, HF.out.2], HB1.out⟩
    · obtain rfl : k = l.length := by omega
      clear hlt hk
      by_cases h1 : (l.length : Int) = t
      · have t1 : ((l.length : Int) != t) = false := by rw [h1]; simp
        by_cases h2 : 1 ≤ t
        · have t2 : decide (t < 1) = false := decide_eq_false (by omega)
          have HF := Lib.hid (join_yes ⟨HJ.out, h1, h2⟩)
          generalize jDat l l.length = dk at *
          clear h1 h2
          go_wp2_with fail
          refine bodyPost_ret (v := .tuple #[str dk, .bool true]) (by simp [results, Tryd.results38, go_sem]) rfl ?_
          exact ⟨by rw [HF.out.1, HF.out.2], HB.out⟩
        · have t2 : decide (t < 1) = true := decide_eq_true (by omega)
          have HF := Lib.hid (join_no (L := l) (t := t) (fun h => h2 h.2.2))
          clear h1 h2
          go_wp2_with fail
          refine bodyPost_ret (v := .tuple #[str [], .bool false]) (by simp [results, Tryd.results38, go_sem]) rfl ?_
          exact ⟨by rw [HF.out.1, HF.out.2], HB.out⟩
      · have t1 : ((l.length : Int) != t) = true := by rw [bne_iff_ne]; exact h1
        have HF := Lib.hid (join_no (L := l) (t := t) (fun h => h1 h.2.1))
        clear h1
        go_wp2_with fail
        refine bodyPost_ret (v := .tuple #[str [], .bool false]) (by simp [results, Tryd.results38, go_sem]) rfl ?_
        exact ⟨by rw [HF.out.1, HF.out.2], HB.out⟩
set_option maxRecDepth 100000 in
set_option maxHeartbeats 4000000 in
theorem implJoinChunks (b : Nat) (v : Value) (l : List ByteArray) (t : Int) (w : World) (h : l.length ≤ 4194304) (hs : sumW l l.length ≤ 1048576) (o : OwnW b w v l) (hT : Tab w) (hM : Mx w) :
    Calls Tryd.prog 39 #[v, .int .i64 t] w fun e w' => e = .returned (.tuple #[.string ⟨(joinS l t).toArray⟩, .bool (joinOk l t)]) ∧ Below w.heap.size w w' := by
  obtain ⟨a, c, rfl, _, _, ha, _⟩ := o.form
  have HA := Lib.hid ha
  have HT := Lib.hid hT
  have HM := Lib.hid hM
  clear o ha hT hM
  by_cases h2 : 1 ≤ t
  · have t2 : decide (t < 1) = false := decide_eq_false (by omega)
    by_cases h1 : (l.length : Int) = t
    · have t1 : ((l.length : Int) != t) = false := by rw [h1]; simp
      have HN := Lib.hid (show Below w.heap.size w (w.alloc (.cells #[.pointer none, .slice none 0 0] 113)) from (Below.refl _ _).alloc (Nat.le_refl _) _)
      have HI := Lib.hid (isB_new w)
      have H1 := Lib.hid h1
      clear h1
      go_enter Tryd.func39, Tryd.ntmps39
      go_wp2_with fail
      go_loopw [21] (fun i wr => ∃ k : Nat, k ≤ l.length ∧ i = .int .i64 k ∧ Hid (IsB w.heap.size w.heap.size (Lib.byteCells (jDat l k)) wr) ∧ Hid (jOk l t k) ∧ Hid (Below w.heap.size w wr)) (fun i _ => l.length - (intOf i).toNat)
      case atStart => exact ⟨0, Nat.zero_le _, rfl, HI, Lib.hid (fun j hj => by omega), HN⟩
      case round =>
        obtain ⟨k, hk, rfl, HI1, HJ, HB⟩ := hrel
        by_cases hlt : k < l.length
        · obtain ⟨x, rfl, hx, hc⟩ := (HA.out.later HB.out) k hlt
          have hsz := sumW_at l hlt
          have hjl := jDat_len l k
          have hmo := sumW_mono l (show k + 1 ≤ l.length from hlt)
          have hsu : sumW l (k + 1) = sumW l k + (l.getD k .empty).size := rfl
          have hrl := rd_len (l.getD k .empty).data.toList
          have J := Lib.hid (implParseChunk (l.getD k .empty) wr (by omega) (HT.out.below HB.out) (HM.out.below HB.out))
          have HX := Lib.hid (show jDat l (k + 1) = jDat l k ++ (rdAt l k).2.2.1 from rfl)
          have HBAD := Lib.hid (fun hk => join_bad (t := t) hlt hk)
          have HSUC := Lib.hid (fun hk => jOk_succ HJ.out hk)
          rw [toL_len] at hrl
          obtain ⟨ra, rb, rd, rk, hr⟩ : ∃ ra rb rd rk, rdAt l k = (ra, rb, rd, rk) := ⟨_, _, _, _, rfl⟩
          have hr' : readC (l.getD k .empty).data.toList = (ra, rb, rd, rk) := hr
          rw [hr] at HX HBAD HSUC
          unfold rdP at J
          rw [hr'] at J hrl
          simp only at J HX HBAD HSUC hrl
          have hll : (jDat l k).length + rd.length ≤ 4000000 := by omega
          clear hr hr' hsz hjl hmo hsu hrl
          generalize l.getD k .empty = y at *
          generalize jDat l k = dk at *
          have k3 : (0 : Int) ≤ (k : Int) := by omega
          have k5 : (k : Int) < (l.length : Int) := by omega
          go_wp2_with fail
          refine J.out.mono ?_
          rintro e w1 ⟨rfl, hb⟩
          have HB1 := Lib.hid (HB.out.trans (hb.mono HB.out.size))
          have HI2 := Lib.hid (IsB.later HI1.out hb)
          clear hb J hc HI1
          have hbA := (Below.refl w1.heap.size w1).alloc (Nat.le_refl _) (.cells #[.int .i64 ra, .int .i64 rb, str rd] 99)
          have HI3 := Lib.hid (IsB.later HI2.out hbA)
          have HB2 := Lib.hid (HB1.out.trans (hbA.mono HB1.out.size))
          clear hbA HI2
          by_cases hq : rk = true ∧ ra = (k : Int) ∧ rb = t
          · obtain ⟨rfl, rfl, rfl⟩ := hq
            have t1 : ((k : Int) != (k : Int)) = false := by simp
            have t3 : (rb != rb) = false := by simp
            go_wp2_with fail
            refine (writeString w.heap.size w.heap.size _ ⟨rd.toArray⟩ _ HI3.out (by rw [byteCells_len]; simp [ByteArray.size]; omega) HB2.out.size).mono ?_
            rintro e w3 ⟨rfl, hI3, hb3⟩
            rw [Lib.strCells_toArray, byteCells_app, ← HX.out] at hI3
            have HI4 := Lib.hid hI3
            have HB3 := Lib.hid (HB2.out.trans hb3)
            clear hI3 hb3
            go_wp2_with fail
            go_roundw
            case rel => exact ⟨k + 1, by omega, by go_num, HI4, Lib.hid (HSUC.out (by simp)), HB3⟩
            case measure => simp [intOf]; omega
          · have HF := Lib.hid (HBAD.out hq)
            cases rk with
            | false =>
              clear hq
              go_wp2_with fail
              refine bodyPost_ret (v := .tuple #[str [], .bool false]) (by simp [results, Tryd.results39, go_sem]) rfl ?_
              exact ⟨by rw [HF.out.1, HF.out.2], HB2.out⟩
            | true =>
              by_cases h1 : ra = (k : Int)
              · have t1 : (ra != (k : Int)) = false := by rw [h1]; simp
                have t3 : (rb != t) = true := by rw [bne_iff_ne]; exact fun h2 => hq ⟨rfl, h1, h2⟩
                clear hq h1
                go_wp2_with fail
                refine bodyPost_ret (v := .tuple #[str [], .bool false]) (by simp [results, Tryd.results39, go_sem]) rfl ?_
                exact ⟨by rw [HF.out.1, HF.out.2], HB2.out⟩
              · have t1 : (ra != (k : Int)) = true := by rw [bne_iff_ne]; exact h1
                clear hq h1
                go_wp2_with fail
                refine bodyPost_ret (v := .tuple #[str [], .bool false]) (by simp [results, Tryd.results39, go_sem]) rfl ?_
                exact ⟨by rw [HF.out.1, HF.out.2], HB2.out⟩
        · obtain rfl : k = l.length := by omega
          clear hlt hk
          have HF := Lib.hid (join_yes ⟨HJ.out, H1.out, h2⟩)
          have hsz := HB.out.size
          generalize jDat l l.length = dk at *
          go_wp2_with fail
          refine (Tryd.Builder_String_any w.heap.size w.heap.size dk wr HI1.out hsz).mono ?_
          rintro e w4 ⟨rfl, hb4⟩
          go_wp2_with fail
          refine bodyPost_ret (v := .tuple #[str dk, .bool true]) (by simp [results, Tryd.results39, go_sem]) rfl ?_
          exact ⟨by rw [HF.out.1, HF.out.2], HB.out.trans hb4⟩
    · have t1 : ((l.length : Int) != t) = true := by rw [bne_iff_ne]; exact h1
      have HF := Lib.hid (join_no (L := l) (t := t) (fun h => h1 h.2.1))
      clear h1
      go_enter Tryd.func39, Tryd.ntmps39
      go_wp2_with fail
      refine bodyPost_ret (v := .tuple #[str [], .bool false]) (by simp [results, Tryd.results39, go_sem]) rfl ?_
      exact ⟨by rw [HF.out.1, HF.out.2], Below.refl _ _⟩
  · have t2 : decide (t < 1) = true := decide_eq_true (by omega)
    have HF := Lib.hid (join_no (L := l) (t := t) (fun h => h2 h.2.2))
    clear h2
    go_enter Tryd.func39, Tryd.ntmps39
    go_wp2_with fail
    refine bodyPost_ret (v := .tuple #[str [], .bool false]) (by simp [results, Tryd.results39, go_sem]) rfl ?_
    exact ⟨by rw [HF.out.1, HF.out.2], Below.refl _ _⟩
end Go.Proofs.YtkkgonkpmdlelaaDoor.kit
