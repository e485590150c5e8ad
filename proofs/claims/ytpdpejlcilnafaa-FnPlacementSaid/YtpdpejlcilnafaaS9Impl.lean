/-
  Chapter 9: what impl's ArePlaces, HasRoom, RacksOf, IsSpread and CountMoves return.
-/
import Derived.Test.YtpdpejlcilnafaaS9Math
import Derived.Test.YtpdpejlcilnafaaC2Impl
import Derived.Test.YtpdpejlcilnafaaLater
namespace Go.Proofs.Ytpdpejlcilnafaa.kit
open Go.ChangeShapes Go.WideShapes Go.ChangeAt Go.RowKit
set_option linter.unusedVariables false
set_option linter.unusedSimpArgs false

set_option maxRecDepth 100000 in
set_option maxHeartbeats 4000000 in
theorem implIsPlace (xr xc xl : Int) (w : World) : Calls Try.prog 61 #[.agg #[.int .i64 xr, .int .i64 xc, .int .i64 xl]] w fun e w' => e = .returned (.bool (plaOk ⟨xr, xc, xl⟩)) ∧ Below w.heap.size w w' := by
  by_cases h1 : 0 ≤ xr
  · by_cases h2 : xr ≤ 9
    · by_cases h3 : 0 ≤ xc
      · by_cases h4 : xc ≤ 9
        · by_cases h5 : 0 ≤ xl
          · by_cases h6 : xl ≤ 99
            · have HF := Lib.hid (show plaOk ⟨xr, xc, xl⟩ = true from decide_eq_true ⟨⟨h1, h2⟩, ⟨h3, h4⟩, h5, h6⟩)
              go_enter Try.func61, Try.ntmps61
              go_wp2_with fail
              go_ret
              exact ⟨by rw [HF.out]; rfl, by go_grown⟩
            · have HF := Lib.hid (show plaOk ⟨xr, xc, xl⟩ = false from decide_eq_false (fun h => h6 h.2.2.2))
              have t := decide_eq_false h6
              clear h6
              go_enter Try.func61, Try.ntmps61
              go_wp2_with fail
              go_ret
              exact ⟨by rw [HF.out]; rfl, by go_grown⟩
          · have HF := Lib.hid (show plaOk ⟨xr, xc, xl⟩ = false from decide_eq_false (fun h => h5 h.2.2.1))
            have t := decide_eq_false h5
            clear h5
            go_enter Try.func61, Try.ntmps61
            go_wp2_with fail
            go_ret
            exact ⟨by rw [HF.out]; rfl, by go_grown⟩
        · have HF := Lib.hid (show plaOk ⟨xr, xc, xl⟩ = false from decide_eq_false (fun h => h4 h.2.1.2))
          have t := decide_eq_false h4
          clear h4
          go_enter Try.func61, Try.ntmps61
          go_wp2_with fail
          go_ret
          exact ⟨by rw [HF.out]; rfl, by go_grown⟩
      · have HF := Lib.hid (show plaOk ⟨xr, xc, xl⟩ = false from decide_eq_false (fun h => h3 h.2.1.1))
        have t := decide_eq_false h3
        clear h3
        go_enter Try.func61, Try.ntmps61
        go_wp2_with fail
        go_ret
        exact ⟨by rw [HF.out]; rfl, by go_grown⟩
    · have HF := Lib.hid (show plaOk ⟨xr, xc, xl⟩ = false from decide_eq_false (fun h => h2 h.1.2))
      have t := decide_eq_false h2
      clear h2
      go_enter Try.func61, Try.ntmps61
      go_wp2_with fail
      go_ret
      exact ⟨by rw [HF.out]; rfl, by go_grown⟩
  · have HF := Lib.hid (show plaOk ⟨xr, xc, xl⟩ = false from decide_eq_false (fun h => h1 h.1.1))
    have t := decide_eq_false h1
    clear h1
    go_enter Try.func61, Try.ntmps61
    go_wp2_with fail
    go_ret
    exact ⟨by rw [HF.out]; rfl, by go_grown⟩
set_option maxRecDepth 100000 in
set_option maxHeartbeats 4000000 in
theorem placeClosure (xr xc xl : Int) (w : World) : Calls Try.prog 60 #[.agg #[.int .i64 xr, .int .i64 xc, .int .i64 xl]] w fun e w' => e = .returned (.bool (!plaOk ⟨xr, xc, xl⟩)) ∧ Below w.heap.size w w' := by
  have j := implIsPlace xr xc xl (w.alloc (.cells #[.int .i64 xr, .int .i64 xc, .int .i64 xl] 61))
  generalize plaOk ⟨xr, xc, xl⟩ = r at *
  have J := Lib.hid j
  clear j
  cases r <;>
  (go_enter Try.func60, Try.ntmps60
   go_wp2_with fail
   refine (J.out).mono ?_
   rintro e w1 ⟨rfl, hb⟩
   go_wp2_with fail
   go_ret
   exact ⟨rfl, below1 hb (by simp)⟩)
/-- the first place that is not in its limits -/
def badQ : List Pla → Nat
  | [] => 0
  | p :: l => if plaOk p = true then badQ l + 1 else 0
theorem badQ_of : ∀ (l : List Pla) (k : Nat), k ≤ l.length → (∀ j, j < k → plaOk (gQ l j) = true) → (k < l.length → plaOk (gQ l k) = false) → badQ l = k
  | [], k, h, _, _ => by have : k = 0 := by simpa using h
                         subst this; rfl
  | p :: r, 0, _, _, h => by
    have h0 : plaOk p = false := h (by simp)
    unfold badQ
    rw [h0]; rfl
  | p :: r, k + 1, h1, h2, h3 => by
    have hb : plaOk p = true := h2 0 (by omega)
    unfold badQ
    rw [if_pos hb, badQ_of r k (by simpa using h1) (fun j hj => h2 (j + 1) (by omega)) (fun q => h3 (by simpa using q))]
def badI (L : List Pla) : Int := if badQ L < L.length then (badQ L : Int) else -1
theorem badI_at {L : List Pla} {k : Nat} (h : k < L.length) (h1 : ∀ j, j < k → plaOk (gQ L j) = true) (h2 : plaOk (gQ L k) = false) : badI L = (k : Int) := by
  unfold badI
  rw [badQ_of L k (by omega) h1 (fun _ => h2), if_pos h]
theorem badI_none {L : List Pla} (h1 : ∀ j, j < L.length → plaOk (gQ L j) = true) : badI L = -1 := by
  unfold badI
  rw [badQ_of L L.length (Nat.le_refl _) h1 (fun h => absurd h (Nat.lt_irrefl _)), if_neg (Nat.lt_irrefl _)]
theorem badQ_le : ∀ l : List Pla, badQ l ≤ l.length
  | [] => Nat.le_refl _
  | p :: r => by
    unfold badQ
    have := badQ_le r
    split <;> simp <;> omega
theorem badI_ok (L : List Pla) : (0 ≤ badI L ∧ arePl L = false) ∨ (badI L = -1 ∧ arePl L = decide (L.length = 5)) := by
  by_cases h : ∀ j, j < L.length → plaOk (gQ L j) = true
  · exact .inr ⟨badI_none h, arePl_all h⟩
  · left
    refine ⟨?_, decide_eq_false (fun hh => h hh.2)⟩
    unfold badI
    split
    · omega
    · rename_i hb
      exfalso
      apply h
      have he : badQ L = L.length := by have := badQ_le L; omega
      clear hb h
      induction L with
      | nil => intro j hj; simp at hj
      | cons p r ih =>
        unfold badQ at he
        split at he
        · rename_i hp
          intro j hj
          cases j with
          | zero => exact hp
          | succ j => exact ih (by simpa using he) j (by simpa using hj)
        · simp at he
set_option maxRecDepth 100000 in
set_option maxHeartbeats 4000000 in
theorem indexFuncQ (a : Option Addr) (cp : Nat) (L : List Pla) (w : World) (hl : L.length ≤ 2097152) (ha : AtQ w a L) :
    Calls Try.prog 80 #[.slice a L.length cp, .func (Fn.func 60) #[] #[]] w
      fun e w' => e = .returned (.int .i64 (badI L)) ∧ Below w.heap.size w w' := by
  have HA := Lib.hid ha
  clear ha
  go_enter Try.func80, Try.ntmps80
  go_wp2_with fail
  go_loopw [8] (fun i wr => ∃ k : Nat, k ≤ L.length ∧ i = .int .i64 k ∧ Hid (∀ j, j < k → plaOk (gQ L j) = true) ∧ Hid (Below w.heap.size w wr)) (fun i _ => L.length - (intOf i).toNat)
  case atStart => exact ⟨0, Nat.zero_le _, rfl, Lib.hid (fun j h => by omega), Lib.hid (Below.refl _ _)⟩
  case round =>
    obtain ⟨k, hk, rfl, HE, HQ⟩ := hrel
    by_cases hlt : k < L.length
    · obtain ⟨g, o, rfl, hg, hc⟩ := HA.out k hlt
      obtain ⟨c0, c1, c2⟩ := hc.below HQ.out hg
      have jc := Lib.hid (placeClosure (gQ L k).r (gQ L k).c (gQ L k).l wr)
      have he : (⟨(gQ L k).r, (gQ L k).c, (gQ L k).l⟩ : Pla) = gQ L k := rfl
      rw [he] at jc
      clear hc he
      cases hi : plaOk (gQ L k) with
      | true =>
        have HE2 := Lib.hid (show ∀ j, j < k + 1 → plaOk (gQ L j) = true from fun j hj => by
          by_cases e : j = k
          · rw [e]; exact hi
          · exact HE.out j (by omega))
        rw [hi] at jc
        clear hi
        go_wp2_with fail
        refine jc.out.mono ?_
        rintro e w1 ⟨rfl, hb⟩
        have HZ := Lib.hid (HQ.out.trans (hb.mono HQ.out.size))
        clear hb jc c0 c1 c2
        go_wp2_with fail
        go_roundw
        case rel => exact ⟨k + 1, by omega, by go_num, HE2, HZ⟩
        case measure => simp [intOf]; omega
      | false =>
        have HF := Lib.hid (badI_at hlt HE.out hi)
        rw [hi] at jc
        clear hi
        go_wp2_with fail
        refine jc.out.mono ?_
        rintro e w1 ⟨rfl, hb⟩
        have HZ := Lib.hid (HQ.out.trans (hb.mono HQ.out.size))
        clear hb jc c0 c1 c2
        go_wp2_with fail
        go_ret
        exact ⟨by rw [HF.out]; rfl, HZ.out⟩
    · obtain rfl : k = L.length := by omega
      have HF := Lib.hid (badI_none HE.out)
      go_wp2_with fail
      go_ret
      exact ⟨by rw [HF.out]; rfl, HQ.out⟩
set_option maxRecDepth 100000 in
set_option maxHeartbeats 4000000 in
theorem containsFuncQ (a : Option Addr) (cp : Nat) (L : List Pla) (w : World) (hl : L.length ≤ 2097152) (ha : AtQ w a L) :
    Calls Try.prog 62 #[.slice a L.length cp, .func (Fn.func 60) #[] #[]] w
      fun e w' => e = .returned (.bool (decide (0 ≤ badI L))) ∧ Below w.heap.size w w' := by
  have j := indexFuncQ a cp L w hl ha
  clear ha
  generalize badI L = z at *
  have J := Lib.hid j
  clear j
  by_cases h : 0 ≤ z
  · have HF := Lib.hid (decide_eq_true h)
    go_enter Try.func62, Try.ntmps62
    go_wp2_with fail
    refine J.out.mono ?_
    rintro e w1 ⟨rfl, hb⟩
    go_wp2_with fail
    go_ret
    exact ⟨by rw [HF.out]; rfl, hb⟩
  · have HF := Lib.hid (decide_eq_false h)
    have t : decide (0 ≤ z) = false := decide_eq_false h
    clear h
    go_enter Try.func62, Try.ntmps62
    go_wp2_with fail
    refine J.out.mono ?_
    rintro e w1 ⟨rfl, hb⟩
    go_wp2_with fail
    go_ret
    exact ⟨by rw [HF.out]; rfl, hb⟩
set_option maxRecDepth 100000 in
set_option maxHeartbeats 4000000 in
theorem implArePlacesA (a : Option Addr) (cp : Nat) (L : List Pla) (w : World) (hl : L.length ≤ 2097152) (ha : AtQ w a L) :
    Calls Try.prog 32 #[.slice a L.length cp] w fun e w' => e = .returned (.bool (arePl L)) ∧ Below w.heap.size w w' := by
  have j := containsFuncQ a cp L w hl ha
  clear ha
  by_cases h5 : L.length = 5
  · have t5 : ((L.length : Int) == 5) = true := by rw [beq_iff_eq]; omega
    have t5' : (L.length == 5) = true := by rw [beq_iff_eq]; exact h5
    rcases badI_ok L with ⟨h, h2⟩ | ⟨h, h2⟩
    · rw [decide_eq_true h] at j
      have J := Lib.hid j
      have HF := Lib.hid h2
      clear h h2 j h5
      go_enter Try.func32, Try.ntmps32
      go_wp2_with fail
      refine J.out.mono ?_
      rintro e w1 ⟨rfl, hb⟩
      go_wp2_with fail
      go_ret
      exact ⟨by rw [HF.out]; rfl, hb⟩
    · rw [decide_eq_false (by omega)] at j
      rw [decide_eq_true h5] at h2
      have J := Lib.hid j
      have HF := Lib.hid h2
      clear h h2 j h5
      go_enter Try.func32, Try.ntmps32
      go_wp2_with fail
      refine J.out.mono ?_
      rintro e w1 ⟨rfl, hb⟩
      go_wp2_with fail
      go_ret
      exact ⟨by rw [HF.out]; rfl, hb⟩
  · have t5 : ((L.length : Int) == 5) = false := by rw [beq_eq_false_iff_ne]; omega
    have t5' : (L.length == 5) = false := by rw [beq_eq_false_iff_ne]; exact h5
    have HF := Lib.hid (show arePl L = false from decide_eq_false (fun h => h5 h.1))
    clear j h5
    go_enter Try.func32, Try.ntmps32
    go_wp2_with fail
    go_ret
    exact ⟨by rw [HF.out]; rfl, Below.refl _ _⟩
theorem implArePlaces (b : Nat) (v : Value) (L : List Pla) (w : World) (h : L.length ≤ 2097152) (o : OwnQ b w v L) :
    Calls Try.prog 32 #[v] w fun e w' => e = .returned (.bool (arePl L)) ∧ Below w.heap.size w w' := by
  obtain ⟨a, c, rfl, _, _, at1, _⟩ := o.form
  exact implArePlacesA a c L w h at1
theorem roomI_no {L : List Pla} {id : Int} (h : arePl L = false) : roomP L id = false := by unfold roomP; rw [h]; rfl
theorem roomI_out {L : List Pla} {id : Int} (h : ¬ (0 ≤ id ∧ id ≤ 4)) : roomP L id = false := by unfold roomP; rw [decide_eq_false (fun hh => h hh.1), Bool.and_false]
theorem roomI_at {L : List Pla} {k : Nat} (h : arePl L = true) (hk : k ≤ 4) : roomP L (k : Int) = decide ((gQ L k).l < (gQ L k).c) := by
  unfold roomP ldP cpP
  rw [h, Bool.true_and, Int.toNat_natCast, Bool.eq_iff_iff]
  simp
  omega
set_option maxRecDepth 100000 in
set_option maxHeartbeats 4000000 in
theorem implHasRoomA (a : Option Addr) (cp : Nat) (L : List Pla) (id : Int) (w : World) (hl : L.length ≤ 2097152) (ha : AtQ w a L) :
    Calls Try.prog 21 #[.slice a L.length cp, .int .i64 id] w fun e w' => e = .returned (.bool (roomP L id)) ∧ Below w.heap.size w w' := by
  have j1 := fun p : LaterOf w => implArePlacesA a cp L p.W hl (ha.later p.h)
  have j2 := fun p : LaterOf w => same_below (implIsServer id p.W)
  cases h1 : arePl L with
  | false =>
    rw [h1] at j1
    have J1 := Lib.hid j1; have J2 := Lib.hid j2
    have HR := Lib.hid (roomI_no (id := id) h1)
    clear h1 j1 j2 ha
    go_enter Try.func21, Try.ntmps21
    go_wp2_with fail
    refine wp_region_later (by kernel_rfl) (by kernel_rfl) ?_
    repeat (go_big_quiet_step (first | (with_reducible exact Calls.later_of (J1.out _)) | (with_reducible exact Calls.later_of (J2.out _))))
    refine wpQuiet_nil ?_
    intro _ hw'
    obtain ⟨⟨wz, hwz⟩, hw''⟩ := hw'
    subst hw''
    have HZ := Lib.hid hwz
    clear hwz
    go_wp2_with fail
    go_ret
    exact ⟨by rw [HR.out]; rfl, HZ.out⟩
  | true =>
    rw [h1] at j1
    by_cases h2 : 0 ≤ id ∧ id ≤ 4
    · rw [decide_eq_true h2] at j2
      obtain ⟨k, rfl⟩ := Int.eq_ofNat_of_zero_le h2.1
      have hlen := arePl_len h1
      have HF := Lib.hid (roomI_at h1 (k := k) (by omega))
      obtain ⟨g, o, rfl, hg, hc⟩ := ha k (by omega)
      obtain ⟨c0, c1, c2⟩ := hc
      generalize (gQ L k).l = xl at *
      generalize (gQ L k).c = xc at *
      have p1 := LaterOf.cell (a := ⟨g, o + k * 3 + 1, none⟩) hg c1
      have p2 := LaterOf.cell (a := ⟨g, o + k * 3 + 2, none⟩) hg c2
      have J1 := Lib.hid j1; have J2 := Lib.hid j2
      have k4 : k < L.length := by omega
      have k5 : (k : Int) < (L.length : Int) := by omega
      cases hr : decide (xl < xc) with
      | false =>
        have HR := Lib.hid (HF.out.trans hr)
        clear h1 h2 j1 j2 ha hlen HF c0 c1 c2
        go_enter Try.func21, Try.ntmps21
        go_wp2_with fail
        refine wp_region_later (by kernel_rfl) (by kernel_rfl) ?_
        repeat (go_big_quiet_step (first | (with_reducible exact Calls.later_of (J1.out _)) | (with_reducible exact Calls.later_of (J2.out _))))
        refine wpQuiet_nil ?_
        intro _ hw'
        obtain ⟨⟨wz, hwz⟩, hw''⟩ := hw'
        subst hw''
        have HZ := Lib.hid hwz
        clear hwz
        go_wp2_with fail
        go_ret
        exact ⟨by rw [HR.out]; rfl, HZ.out⟩
      | true =>
        have HR := Lib.hid (HF.out.trans hr)
        clear h1 h2 j1 j2 ha hlen HF c0 c1 c2
        go_enter Try.func21, Try.ntmps21
        go_wp2_with fail
        refine wp_region_later (by kernel_rfl) (by kernel_rfl) ?_
        repeat (go_big_quiet_step (first | (with_reducible exact Calls.later_of (J1.out _)) | (with_reducible exact Calls.later_of (J2.out _))))
        refine wpQuiet_nil ?_
        intro _ hw'
        obtain ⟨⟨wz, hwz⟩, hw''⟩ := hw'
        subst hw''
        have HZ := Lib.hid hwz
        clear hwz
        go_wp2_with fail
        go_ret
        exact ⟨by rw [HR.out]; rfl, HZ.out⟩
    · rw [decide_eq_false h2] at j2
      have J1 := Lib.hid j1; have J2 := Lib.hid j2
      have HR := Lib.hid (roomI_out (L := L) h2)
      clear h1 h2 j1 j2 ha
      go_enter Try.func21, Try.ntmps21
      go_wp2_with fail
      refine wp_region_later (by kernel_rfl) (by kernel_rfl) ?_
      repeat (go_big_quiet_step (first | (with_reducible exact Calls.later_of (J1.out _)) | (with_reducible exact Calls.later_of (J2.out _))))
      refine wpQuiet_nil ?_
      intro _ hw'
      obtain ⟨⟨wz, hwz⟩, hw''⟩ := hw'
      subst hw''
      have HZ := Lib.hid hwz
      clear hwz
      go_wp2_with fail
      go_ret
      exact ⟨by rw [HR.out]; rfl, HZ.out⟩
theorem implHasRoom (b : Nat) (v : Value) (L : List Pla) (id : Int) (w : World) (h : L.length ≤ 2097152) (o : OwnQ b w v L) :
    Calls Try.prog 21 #[v, .int .i64 id] w fun e w' => e = .returned (.bool (roomP L id)) ∧ Below w.heap.size w w' := by
  obtain ⟨a, c, rfl, _, _, at1, _⟩ := o.form
  exact implHasRoomA a c L id w h at1
set_option maxRecDepth 100000 in
theorem implCountMoves (b1 : Nat) (v1 : Value) (l1 : List Int) (b2 : Nat) (v2 : Value) (l2 : List Int) (w : World) (h1 : l1.length ≤ 1048576) (o1 : OwnI b1 w v1 l1) (h2 : l2.length ≤ 1048576) (o2 : OwnI b2 w v2 l2) :
    Calls Try.prog 20 #[v1, v2] w fun e w' => e = .returned (.int .i64 ((without l2 l1).length : Int)) ∧ Below w.heap.size w w' := by
  have J := Lib.hid (implWithoutServers b2 v2 l2 b1 v1 l1 w h2 o2 h1 o1)
  clear o1 o2
  go_enter Try.func20, Try.ntmps20
  go_wp2_with (go_at_call 51; with_reducible refine (J.out).mono ?_; rintro e w1 ⟨v, rfl, ho, hb⟩; obtain ⟨y, q, rfl⟩ := ho.shape)
  go_ret
  exact ⟨rfl, hb⟩
theorem asc_puts (l : List Int) : ascending l = puts [] l := asc_ext (ascending_ok l).1 (puts_asc _ asc_nil) (fun x => by rw [(ascending_ok l).2, puts_mem]; simp)
theorem rkI_take {L : List Pla} {m : List Int} {k : Nat} (h : k < m.length) : (m.take (k + 1)).map (rkP L) = (m.take k).map (rkP L) ++ [rkP L (m.getD k 0)] := by
  rw [take_snocI m k h, List.map_append]; rfl
set_option maxRecDepth 100000 in
set_option maxHeartbeats 4000000 in
theorem implRacksOfA (a : Option Addr) (cp : Nat) (L : List Pla) (b : Option Addr) (cb : Nat) (m : List Int) (w : World) (hl : L.length ≤ 2097152) (hm : m.length ≤ 4194304) (ha : AtQ w a L) (hb : At w b m) :
    Calls Try.prog 26 #[.slice a L.length cp, .slice b m.length cb] w fun e w' => ∃ v, e = .returned v ∧ OwnI w.heap.size w' v (racksP L m) ∧ Below w.heap.size w w' := by
  have j1 := implArePlacesA a cp L w hl ha
  have j2 := fun W (hd : Below w.heap.size w W) => implAre_any b cb m W hm (hb.later hd)
  have HA := Lib.hid ha
  have HM := Lib.hid hb
  clear ha hb
  have hmk : ∀ W : World, (Instr.makeSlice 25 (.int .i64 0) (.int .i64 5)).run Try.prog W = .ok (.slice (some ⟨W.heap.size, 0, none⟩) 0 5) (W.alloc (.cells (madeCells #[.int .i64 0] 5) 3)) := fun _ => by kernel_rfl
  cases h1 : arePl L with
  | false =>
    rw [h1] at j1
    have J1 := Lib.hid j1
    have HF := Lib.hid (show racksP L m = [] from racksP_no (by simp [h1]))
    clear h1 j1 j2 hmk
    go_enter Try.func26, Try.ntmps26
    go_wp2_with (go_at_call 32; with_reducible refine (J1.out).mono ?_; rintro e w1 ⟨rfl, hb1⟩)
    go_ret
    exact ⟨_, rfl, by rw [HF.out]; exact ⟨rfl, .inl ⟨rfl, rfl⟩⟩, hb1⟩
  | true =>
    rw [h1] at j1
    cases h2 : are m with
    | false =>
      rw [h2] at j2
      have J1 := Lib.hid j1; have J2 := Lib.hid j2
      have HF := Lib.hid (show racksP L m = [] from racksP_no (by simp [h2]))
      clear h1 h2 j1 j2 hmk
      go_enter Try.func26, Try.ntmps26
      go_wp2_with (first | (go_at_call 32; with_reducible refine (J1.out).mono ?_; rintro e w1 ⟨rfl, hb1⟩) | (go_at_call 45; with_reducible refine (J2.out _ hb1).mono ?_; rintro e w2 ⟨rfl, hb2⟩))
      go_ret
      exact ⟨_, rfl, by rw [HF.out]; exact ⟨rfl, .inl ⟨rfl, rfl⟩⟩, hb1.trans (hb2.mono hb1.size)⟩
    | true =>
      rw [h2] at j2
      have J1 := Lib.hid j1; have J2 := Lib.hid j2
      have HLT := Lib.hid (are_lt h2)
      have hm5 := are_len h2
      have HLen := Lib.hid (arePl_len h1)
      have HF := Lib.hid (show ascending (m.map (rkP L)) = racksP L m by rw [asc_puts]; exact (racksP_yes ⟨h1, h2⟩).symm)
      clear h1 h2 j1 j2
      go_enter Try.func26, Try.ntmps26
      go_wp2_with (first | (go_at_call 32; with_reducible refine (J1.out).mono ?_; rintro e w1 ⟨rfl, hb1⟩) | (go_at_call 45; with_reducible refine (J2.out _ hb1).mono ?_; rintro e w2 ⟨rfl, hb2⟩))
      clear hmk
      have HW := Lib.hid (hb1.trans (hb2.mono hb1.size))
      clear hb1 hb2 J1 J2
      go_loopw [5, 7, 19] (fun v t i wr => ∃ k : Nat, k ≤ m.length ∧ i = .int .i64 k ∧ OwnI w.heap.size wr v ((m.take k).map (rkP L)) ∧ Below w.heap.size w wr) (fun _ _ i _ => m.length - (intOf i).toNat)
      case atStart => exact ⟨0, Nat.zero_le _, rfl, World.ownsRow_made w2 _ 5 HW.out.size (by unfold maxLen; omega) (by simp [size_madeCells]), HW.out.trans ((Below.refl _ _).alloc HW.out.size _)⟩
      case round =>
        obtain ⟨k, hk, rfl, ho, hb⟩ := hrel
        have HB := Lib.hid hb
        have HO := Lib.hid ho
        by_cases hlt : k < m.length
        · have hin := HLT.out k hlt
          obtain ⟨x, rfl, hx, hcx⟩ := HM.out k hlt
          have hcx' : wr.cell? (x.add k) = some (.int .i64 (m.getD k 0)) := (hb.cell (p := x.add k) (by unfold Addr.add; split <;> exact hx)).trans hcx
          obtain ⟨i, hi⟩ := Int.eq_ofNat_of_zero_le (show 0 ≤ m.getD k 0 by omega)
          obtain ⟨g, o, rfl, hg, hc⟩ := HA.out i (by have := HLen.out; omega)
          have c0 := (hc.below hb hg).c0
          have HP := Lib.hid (show (m.take (k + 1)).map (rkP L) = (m.take k).map (rkP L) ++ [(gQ L i).r] by rw [rkI_take hlt, hi]; unfold rkP; rw [Int.toNat_natCast])
          rw [hi] at hcx'
          have i1 : i < L.length := by have := HLen.out; omega
          have i2 : (i : Int) < (L.length : Int) := by omega
          generalize (gQ L i).r = z at *
          obtain ⟨P, hP⟩ : ∃ P, P = (m.take k).map (rkP L) := ⟨_, rfl⟩
          have hpl : P.length ≤ 5 := by rw [hP, List.length_map, List.length_take]; omega
          rw [← hP] at HP HO
          have hown := HO.out.row
          have hs0 : w.heap.size ≤ wr.heap.size := HB.out.size
          clear ho hcx hi hin hc hP
          go_wp2_with (at_builtin; refine wpList_push1 rfl _ _ 25 rfl w.heap.size 3 (.int .i64 0) 8 Try.underlying25 infoI rfl _ _ _ rfl hown _ 1 rfl (by rfl) (by omega) (by omega) hs0 ?_; intro v' w9 hown' hb9 hg9)
          go_roundw
          case rel => exact ⟨k + 1, by omega, by go_num, by rw [HP.out]; exact OwnI.snoc hown', HB.out.trans hb9⟩
          case measure => simp [intOf]; omega
        · have hkm : k = m.length := by omega
          rw [hkm, List.take_length] at ho
          have hl5 : (m.map (rkP L)).length ≤ 4194304 := by rw [List.length_map]; omega
          have J3 := Lib.hid (implAsc _ _ _ wr hl5 ho)
          rw [HF.out] at J3
          clear ho hb hkm hl5
          go_wp2_with (go_at_call 58; with_reducible refine (J3.out).mono ?_; rintro e w3 ⟨v3, rfl, ho3, hb3⟩)
          go_ret
          exact ⟨_, rfl, ho3.mono HB.out.size, HB.out.trans (hb3.mono HB.out.size)⟩
theorem implRacksOf (b1 : Nat) (v1 : Value) (L : List Pla) (b2 : Nat) (v2 : Value) (m : List Int) (w : World) (h1 : L.length ≤ 2097152) (o1 : OwnQ b1 w v1 L) (h2 : m.length ≤ 4194304) (o2 : OwnI b2 w v2 m) :
    Calls Try.prog 26 #[v1, v2] w fun e w' => ∃ v, e = .returned v ∧ OwnI w.heap.size w' v (racksP L m) ∧ Below w.heap.size w w' := by
  obtain ⟨a1, c1, rfl, _, _, at1, _⟩ := o1.form
  obtain ⟨a2, c2, rfl, _, _, at2, _⟩ := o2.form
  exact implRacksOfA a1 c1 L a2 c2 m w h1 h2 at1 at2
end Go.Proofs.Ytpdpejlcilnafaa.kit
