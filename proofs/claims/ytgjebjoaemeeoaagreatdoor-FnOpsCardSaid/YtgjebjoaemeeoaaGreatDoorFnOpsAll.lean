/-
  Reading back sets, configurations, machines; the draws of chapter 8; the law FnOps: its walk and its end (merged text).
-/
import Derived.Test.YtgjebjoaemeeoaaGreatDoorFnOpsC
import Derived.Test.YtgjebjoaemeeoaaGreatDoorS5Plain
import Derived.Laws.StructEq
import Derived.BigQuiet
import Derived.Test.YtgjebjoaemeeoaaGreatDoorFnOpsA
import Derived.Test.YtgjebjoaemeeoaaGreatDoorFnOpsB
import Derived.Deep.RegionWith
import Derived.Test.YtgjebjoaemeeoaaGreatDoorParseInts
import Derived.Test.YtgjebjoaemeeoaaGreatDoorInvV
import Derived.Test.YtgjebjoaemeeoaaGreatDoorS4Valid
import Derived.Test.YtgjebjoaemeeoaaGreatDoorS4Rows
import Derived.Test.YtgjebjoaemeeoaaGreatDoorBoxC
import Derived.Test.YtgjebjoaemeeoaaGreatDoorS4Plain
import Derived.Test.YtgjebjoaemeeoaaGreatDoorC1Fixed
import Derived.Test.YtgjebjoaemeeoaaGreatDoorS3Fmt
import Derived.Test.YtgjebjoaemeeoaaGreatDoorS5Log
import Derived.Deep.DeepCutAuto
import Derived.Test.YtgjebjoaemeeoaaGreatDoorC1Int
import Derived.Deep.DeepHandedRow
import Derived.Lib.LaidTab
import Derived.LaidSub
import Derived.Test.YtgjebjoaemeeoaaGreatDoorCards
import Derived.Test.YtgjebjoaemeeoaaGreatDoorTie
namespace Go.Proofs.YtgjebjoaemeeoaaGreatDoor.kit
open Go.ChangeShapes Go.WideShapes Go.ChangeAt Go.RowKit
set_option linter.unusedVariables false

theorem fmtM_short (L1 : List Int) (L2 : List Sess) : (fmtM L1 L2).length ≤ 1000 := by
  unfold fmtM
  split
  · rename_i h
    have a := fmtOs_len h L1.length
    have b := fmtXs_len h L2.length
    have c := h.len
    rw [List.take_length] at a b
    rw [List.length_append]
    omega
  · simp
end Go.Proofs.YtgjebjoaemeeoaaGreatDoor.kit
namespace Go.Proofs.YtgjebjoaemeeoaaGreatDoor.kit
open Go.ChangeShapes Go.WideShapes Go.ChangeAt Go.RowKit
set_option linter.unusedVariables false

set_option maxRecDepth 100000 in
set_option maxHeartbeats 4000000 in
theorem eqlEnt (x y : Ent) (W : World) : Sem.run Tryz.prog (binOp .eql 75 (entV x) (entV y)) W = .ok (.bool (decide (x = y))) W := by
  obtain ⟨e, c, s, k, o, d, v⟩ := x
  obtain ⟨e', c', s', k', o', d', v'⟩ := y
  unfold entV
  simp only
  have u3 := Tryz.underlying3
  have hS : Tryz.prog.underlying 75 = some (.struct (Tryz.prog.fieldsOf 75)) := by kernel_rfl
  have hp : Tryz.prog.stoodInHeld 75 = false := by kernel_rfl
  have hS2 : Tryz.prog.underlying 25 = some (.struct (Tryz.prog.fieldsOf 25)) := by kernel_rfl
  have hp2 : Tryz.prog.stoodInHeld 25 = false := by kernel_rfl
  rw [run_eql_struct, show (10000 : Nat) = 9999 + 1 from rfl, run_equalIn_agg W 9999 75 _ _ hS hp]
  have he := fun (d : Nat) (w : World) (xs ys : Array Value) => run_equalIn_agg w d 25 xs ys hS2 hp2
  simp only [Program.fieldsOf, Tryz.underlying75, Tryz.underlying25] at he ⊢
  clear hS hS2 hp hp2
  have k3 := Tryz.isAgg3
  go_simp
  by_cases h0 : e = e' <;> simp [h0]
  by_cases h1 : c = c' <;> simp [h1]
  by_cases h2 : s = s' <;> simp [h2]
  by_cases h3 : k = k' <;> simp [h3]
  by_cases h4 : o = o' <;> simp [h4]
  by_cases h5 : d = d' <;> simp [h5]
  by_cases h6 : v = v' <;> simp [h6]
set_option maxRecDepth 100000 in
set_option maxHeartbeats 4000000 in
theorem implCommonPrefixA (a1 a2 : Option Addr) (c1 c2 : Nat) (l1 l2 : List Ent) (w : World) (h1 : l1.length ≤ 2097152) (h2 : l2.length ≤ 2097152) (ha1 : AtE w a1 l1) (ha2 : AtE w a2 l2) :
    Calls Tryz.prog 59 #[.slice a1 l1.length c1, .slice a2 l2.length c2] w fun e w' => e = .returned (.int .i64 (comPre l1 l2 : Nat)) ∧ Drawn w w' := by
  have HA1 := Lib.hid ha1
  have HA2 := Lib.hid ha2
  clear ha1 ha2
  go_enter Tryz.func59, Tryz.ntmps59
  go_wp2_with fail
  go_loopw [5] (fun i wr => ∃ k : Nat, k ≤ l1.length ∧ k ≤ l2.length ∧ i = .int .i64 k ∧ Hid (∀ j, j < k → gE l1 j = gE l2 j) ∧ Hid (Drawn w wr)) (fun i _ => l1.length - (intOf i).toNat)
  case atStart => exact ⟨0, Nat.zero_le _, Nat.zero_le _, rfl, Lib.hid (fun j h => by omega), Lib.hid (Drawn.refl _)⟩
  case round =>
    obtain ⟨k, hk, hk2, rfl, HE, HQ⟩ := hrel
    by_cases hlt : k < l1.length
    · by_cases hlt2 : k < l2.length
      · skip
        obtain ⟨g, o, rfl, hg, hq1⟩ := HA1.out k hlt
        obtain ⟨q, HQ3⟩ : ∃ q, Hid (wr = w.drewN q) := by obtain ⟨q, e⟩ := HQ.out; exact ⟨q, Lib.hid e⟩
        obtain ⟨c0, c1', c2', c3, c4, c5, c6⟩ : EntAt wr g (o + k * 7) (gE l1 k) := by rw [HQ3.out]; exact hq1.drewN q
        obtain ⟨g', o', rfl, hg', hq2⟩ := HA2.out k hlt2
        obtain ⟨d0, d1, d2, d3, d4, d5, d6⟩ : EntAt wr g' (o' + k * 7) (gE l2 k) := by rw [HQ3.out]; exact hq2.drewN q
        have heq := fun W => eqlEnt (gE l1 k) (gE l2 k) W
        clear hq1 hq2 HQ3
        unfold entV at heq
        obtain ⟨x0, x1, x2, x3, x4, x5, x6, hx⟩ : ∃ a b c d e f g, gE l1 k = ⟨a, b, c, d, e, f, g⟩ := ⟨_, _, _, _, _, _, _, rfl⟩
        obtain ⟨y0, y1, y2, y3, y4, y5, y6, hy⟩ : ∃ a b c d e f g, gE l2 k = ⟨a, b, c, d, e, f, g⟩ := ⟨_, _, _, _, _, _, _, rfl⟩
        have k3 : (0 : Int) ≤ (k : Int) := by omega
        have k5 : (k : Int) < (l1.length : Int) := by omega
        have k6 : (k : Int) < (l2.length : Int) := by omega
        have t1 : decide ((k : Int) < (l1.length : Int)) = true := decide_eq_true k5
        have t2 : decide ((k : Int) < (l2.length : Int)) = true := decide_eq_true k6
        by_cases hz : gE l1 k = gE l2 k
        · have HE2 := Lib.hid (show ∀ j, j < k + 1 → gE l1 j = gE l2 j from fun j hj => by
            by_cases e : j = k
            · rw [e]; exact hz
            · exact HE.out j (by omega))
          rw [decide_eq_true hz] at heq
          rw [hx] at c0 c1' c2' c3 c4 c5 c6 heq
          rw [hy] at d0 d1 d2 d3 d4 d5 d6 heq
          simp only at c0 c1' c2' c3 c4 c5 c6 d0 d1 d2 d3 d4 d5 d6 heq
          clear hz hx hy
          go_wp2_with fail
          go_quiet (fail)
          go_wp2_with fail
          go_roundw
          case rel => exact ⟨k + 1, by omega, by omega, by go_num, HE2, Lib.hid (HQ.out.more _)⟩
          case measure => simp [intOf]; omega
        · have HF := Lib.hid (comPre_of l1 l2 k hk hk2 HE.out (fun _ _ => hz))
          rw [decide_eq_false hz] at heq
          rw [hx] at c0 c1' c2' c3 c4 c5 c6 heq
          rw [hy] at d0 d1 d2 d3 d4 d5 d6 heq
          simp only at c0 c1' c2' c3 c4 c5 c6 d0 d1 d2 d3 d4 d5 d6 heq
          clear hz hx hy
          go_wp2_with fail
          go_quiet (fail)
          go_wp2_with fail
          go_ret
          exact ⟨by rw [HF.out]; rfl, HQ.out.more _⟩
      · have HF := Lib.hid (comPre_of l1 l2 k hk hk2 HE.out (fun _ h => absurd h hlt2))
        have t1 : decide ((k : Int) < (l1.length : Int)) = true := decide_eq_true (by omega)
        have t2 : decide ((k : Int) < (l2.length : Int)) = false := decide_eq_false (by omega)
        go_wp2_with fail
        go_quiet (fail)
        go_wp2_with fail
        go_ret
        exact ⟨by rw [HF.out]; rfl, HQ.out.more _⟩
    · have HF := Lib.hid (comPre_of l1 l2 k hk hk2 HE.out (fun h => absurd h hlt))
      have t1 : decide ((k : Int) < (l1.length : Int)) = false := decide_eq_false (by omega)
      go_wp2_with fail
      go_quiet (fail)
      go_wp2_with fail
      go_ret
      exact ⟨by rw [HF.out]; rfl, HQ.out.more _⟩
theorem implCommonPrefix (b1 : Nat) (v1 : Value) (l1 : List Ent) (b2 : Nat) (v2 : Value) (l2 : List Ent) (w : World) (h1 : l1.length ≤ 2097152) (o1 : OwnE b1 w v1 l1) (h2 : l2.length ≤ 2097152) (o2 : OwnE b2 w v2 l2) :
    Calls Tryz.prog 59 #[v1, v2] w fun e w' => e = .returned (.int .i64 (comPre l1 l2 : Nat)) ∧ Below w.heap.size w w' := by
  obtain ⟨a1, c1, rfl, _, _, t1, _⟩ := o1.form
  obtain ⟨a2, c2, rfl, _, _, t2, _⟩ := o2.form
  exact (implCommonPrefixA a1 a2 c1 c2 l1 l2 w h1 h2 t1 t2).mono fun _ _ ⟨h, d⟩ => ⟨h, d.below _⟩
set_option maxRecDepth 100000 in
theorem implIsPrefixA (a1 a2 : Option Addr) (c1 c2 : Nat) (l1 l2 : List Ent) (w : World) (h1 : l1.length ≤ 2097152) (h2 : l2.length ≤ 2097152) (ha1 : AtE w a1 l1) (ha2 : AtE w a2 l2) :
    Calls Tryz.prog 25 #[.slice a1 l1.length c1, .slice a2 l2.length c2] w fun e w' => e = .returned (.bool (isPre l1 l2)) ∧ Drawn w w' := by
  have J := Lib.hid (implCommonPrefixA a1 a2 c1 c2 l1 l2 w h1 h2 ha1 ha2)
  have hb := comPre_le l1 l2
  unfold isPre
  generalize comPre l1 l2 = n at *
  clear ha1 ha2
  by_cases h : n = l1.length
  · rw [decide_eq_true h]
    have t1 : ((n : Int) == (l1.length : Int)) = true := by rw [beq_iff_eq]; omega
    clear h
    go_enter Tryz.func25, Tryz.ntmps25
    go_wp2_with fail
    refine J.out.mono ?_
    rintro e w1 ⟨rfl, q, rfl⟩
    go_wp2_with fail
    go_ret
    exact ⟨rfl, _, rfl⟩
  · rw [decide_eq_false h]
    have t1 : ((n : Int) == (l1.length : Int)) = false := by rw [beq_eq_false_iff_ne]; omega
    clear h
    go_enter Tryz.func25, Tryz.ntmps25
    go_wp2_with fail
    refine J.out.mono ?_
    rintro e w1 ⟨rfl, q, rfl⟩
    go_wp2_with fail
    go_ret
    exact ⟨rfl, _, rfl⟩
theorem implIsPrefix (b1 : Nat) (v1 : Value) (l1 : List Ent) (b2 : Nat) (v2 : Value) (l2 : List Ent) (w : World) (h1 : l1.length ≤ 2097152) (o1 : OwnE b1 w v1 l1) (h2 : l2.length ≤ 2097152) (o2 : OwnE b2 w v2 l2) :
    Calls Tryz.prog 25 #[v1, v2] w fun e w' => e = .returned (.bool (isPre l1 l2)) ∧ Below w.heap.size w w' := by
  obtain ⟨a1, c1, rfl, _, _, t1, _⟩ := o1.form
  obtain ⟨a2, c2, rfl, _, _, t2, _⟩ := o2.form
  exact (implIsPrefixA a1 a2 c1 c2 l1 l2 w h1 h2 t1 t2).mono fun _ _ ⟨h, d⟩ => ⟨h, d.below _⟩
end Go.Proofs.YtgjebjoaemeeoaaGreatDoor.kit
namespace Go.Proofs.YtgjebjoaemeeoaaGreatDoor.kit
set_option linter.unusedVariables false
set_option linter.unusedSimpArgs false

/-- an operation: what is read of its format -/
theorem op_back (c s k o d v : Int) : parOok (fmtO c s k o d v) = okOp c s k o d v ∧ (okOp c s k o d v = true → parO (fmtO c s k o d v) = (c, s, k, o, d, v)) := by
  cases h : okOp c s k o d v with
  | true => exact ⟨(par_fmt h).1, fun _ => (par_fmt h).2⟩
  | false =>
    have e : fmtO c s k o d v = [] := by unfold fmtO; rw [h]; rfl
    rw [e]
    exact ⟨parOok_nil, fun h => by cases h⟩
theorem log_none : parLok [] = false := decide_eq_false (fun h => by
  rcases h with h | h
  · revert h; decide
  · exact h.1 rfl)
/-- a log is read back -/
theorem log_back (L : List Ent) : parLok (fmtL L) = decide (LOk L) ∧ (LOk L → parLl (fmtL L) = L) := by
  by_cases h : LOk L
  · rw [decide_eq_true h]
    by_cases h0 : L = []
    · subst h0
      have e : fmtL [] = wordNone := by unfold fmtL; rw [if_pos h]; rfl
      rw [e]
      exact ⟨decide_eq_true (.inl rfl), fun _ => if_pos rfl⟩
    · have hl : ¬ L.length = 0 := fun e => h0 (List.eq_nil_of_length_eq_zero e)
      have e : fmtL L = joinX 59 (L.map fmtE) := by unfold fmtL; rw [if_pos h, if_neg hl, joinTo_X]
      have hn : fmtL L ≠ wordNone := by rw [e]; exact wordNone_no h h0
      have hw : Lib.splitK [59] 0 15 (fmtL L) = L.map fmtE := by
        rw [e]
        refine split_join (by simpa using h0) (fun p hp => ?_) (by have := h.2; rw [List.length_map]; omega)
        obtain ⟨x, hx, rfl⟩ := List.mem_map.1 hp
        exact fmtE_no (gE_memE h hx)
      have hp : (L.map fmtE).map peE = L := by
        rw [List.map_map]
        conv => rhs; rw [← List.map_id L]
        exact List.map_congr_left (fun x hx => (pe_fmt (gE_memE h hx)).2)
      obtain ⟨h1, h2⟩ := strict_yes hn (by rw [hw]; intro p hp; obtain ⟨x, hx, rfl⟩ := List.mem_map.1 hp; exact (pe_fmt (gE_memE h hx)).1) (by rw [hw, hp]; exact h)
      rw [hw, hp] at h2
      exact ⟨h1, fun _ => h2⟩
  · rw [decide_eq_false h]
    have e : fmtL L = [] := by unfold fmtL; rw [if_neg h]
    rw [e]
    exact ⟨log_none, fun hh => absurd hh h⟩
theorem logL_len (L : List Ent) : (fmtL L).length ≤ 5000 := by
  unfold fmtL
  split
  · rename_i h
    split
    · decide
    · have := joinTo_len h L.length (Nat.le_refl _)
      have := h.2
      omega
  · simp
/-- a configuration: what is read of its format -/
theorem conf_all (x y : Int) (L1 L2 : List Int) : parCok (fmtC x y L1 L2) = cfgOk x y L1 L2 ∧ (cfgOk x y L1 L2 = true → parCx (fmtC x y L1 L2) = x ∧ parCy (fmtC x y L1 L2) = y ∧ parC1 (fmtC x y L1 L2) = L1 ∧ parC2 (fmtC x y L1 L2) = L2) := by
  by_cases h : CfgOk x y L1 L2
  · have hb := conf_back h
    have e : cfgOk x y L1 L2 = true := decide_eq_true h
    rw [e]
    exact ⟨hb.1, fun _ => hb.2⟩
  · have e : cfgOk x y L1 L2 = false := decide_eq_false h
    have e2 : fmtC x y L1 L2 = [] := by unfold fmtC; rw [if_neg (by rw [e]; simp)]
    rw [e, e2]
    exact ⟨decide_eq_false (fun h => by have := h.1; simp [cuts] at this), fun hh => by cases hh⟩
theorem fmtC_len (x y : Int) (L1 L2 : List Int) : (fmtC x y L1 L2).length ≤ 1000 := by
  unfold fmtC
  split
  · rename_i h
    have hc : CfgOk x y L1 L2 := of_decide_eq_true h
    have hy := cfg_y hc
    have hx := hc.1
    have a := itoa_le x (by omega) (by omega)
    have b := itoa_le y (by omega) (by omega)
    have c := fmtS_len L1
    have d := fmtS_len L2
    simp only [List.length_append, List.length_cons, List.length_nil]
    omega
  · simp
/-- a machine: what is read of its format -/
theorem mach_all (L1 : List Int) (L2 : List Sess) : parMok (fmtM L1 L2) = decide (MOk L1 L2) ∧ (decide (MOk L1 L2) = true → parMO (fmtM L1 L2) = L1 ∧ parMX (fmtM L1 L2) = L2) := by
  by_cases h : MOk L1 L2
  · rw [decide_eq_true h]
    exact ⟨(mach_back h).1, fun _ => (mach_back h).2⟩
  · rw [decide_eq_false h]
    have e : fmtM L1 L2 = [] := by unfold fmtM; rw [if_neg h]
    rw [e]
    exact ⟨mach_none, fun hh => by cases hh⟩
theorem comPre_self : ∀ a : List Ent, comPre a a = a.length
  | [] => rfl
  | x :: a => by
    unfold comPre
    rw [if_pos rfl, comPre_self a]; rfl
theorem isPre_same (a : List Ent) : isPre a a = true := decide_eq_true (comPre_self a)
end Go.Proofs.YtgjebjoaemeeoaaGreatDoor.kit
namespace Go.Proofs.YtgjebjoaemeeoaaGreatDoor.kit
open Go.ChangeShapes Go.WideShapes Go.ChangeAt Go.RowKit
set_option linter.unusedVariables false
set_option linter.unusedSimpArgs false

/-- a box stays while a row of another type is kept -/
theorem ownI_put {W : World} {base b : Nat} {v : Value} {l : List Int} {t : TypeId} {cs : Array Value} (hr : OwnI base W v l) (hb : BoxC W b t cs) (hte : t ≠ 3) (j : Nat) (u : Value) : OwnI base (W.setCell ⟨b, j, none⟩ u) v l := by
  refine ownsRow_setCell_other hr ?_ _
  rcases hr.2 with ⟨rfl, _⟩ | ⟨q, cap, cur, rfl, _, hgb, _⟩
  · simp [Value.ownBlock]
  · intro e'
    obtain rfl : q = b := by simpa [Value.ownBlock] using e'
    have := hgb.symm.trans hb
    simp at this
    exact hte this.2.symm
/-- the first k of a row -/
theorem OwnI.first {base g cap : Nat} {w : World} {l : List Int} (h : OwnI base w (.slice (some ⟨g, 0, none⟩) l.length cap) l) (k : Nat) (hk : k ≤ l.length) : OwnI base w (.slice (some ⟨g, 0, none⟩) k cap) (l.take k) := by
  have hlk : (l.take k).length = k := by rw [List.length_take]; exact Nat.min_eq_left hk
  obtain ⟨h1, h2⟩ := h
  refine ⟨by simp, ?_⟩
  rcases h2 with ⟨e, _⟩ | ⟨g', c', cur, e, a1, a2, a3, a4, a5, a6⟩
  · cases e
  · cases e
    refine .inr ⟨g, cap, cur, by rw [hlk], a1, a2, by omega, a4, a5, ?_⟩
    rw [hlk, Nat.mul_one, List.map_take, ← a6, Nat.mul_one, List.take_take, Nat.min_eq_left hk]
theorem without_len6 (a b : List Int) (h : a.length ≤ 6) : (without a b).length ≤ 6 := by
  unfold without
  have h1 := puts_length (a.filter fun x => decide (x ∉ b)) []
  have h2 := List.length_filter_le (fun x => decide (x ∉ b)) a
  simp only [List.length_nil, Nat.zero_add] at h1
  omega
theorem run_first (W : World) (g n cap : Nat) (h1 : 1 ≤ cap) : (Instr.slice 35 (.slice (some ⟨g, 0, none⟩) n cap) none (some (.int .i64 1)) none).run Tryz.prog W = .ok (.slice (some ⟨g, 0, none⟩) 1 cap) W := by
  have e := run_slice_h (P := Tryz.prog) W 35 (some ⟨g, 0, none⟩) n cap (by kernel_rfl) .i64 1 (by omega) (by omega)
  rw [e]
  have hs : (sizeOf (Tryz.prog.elem 35)).run Tryz.prog W = .ok 1 W := by kernel_rfl
  rw [hs]
  unfold sliced
  have hne : ¬ cap = 0 := by omega
  simp [hne, Addr.add]
/-- some configuration of this epoch, in memory of its own -/
def CfgAny (g : Nat) (z : Int) (w : World) (e : Ending) (w' : World) : Prop := ∃ (y : Int) (u1 u2 : Value) (R1 R2 : List Int), e = .returned (.agg #[.int .i64 z, .int .i64 y, u1, u2]) ∧ R1.length ≤ 6 ∧ R2.length ≤ 6 ∧ OwnI w.heap.size w' u1 R1 ∧ OwnI w.heap.size w' u2 R2 ∧ Drew g w w'
set_option maxRecDepth 100000 in
set_option maxHeartbeats 8000000 in
theorem config_any (g : Nat) (z : Int) (w : World) (hc : Cur g w) :
    Calls Tryz.prog 75 #[.pointer (some ⟨g, 0, none⟩), .int .i64 z] w (CfgAny g z w) := by
  have hgs := hc.lt
  have hD0 := (Drew.refl hc).alloc (.cells #[.int .i64 0, .int .i64 0, .slice none 0 0, .slice none 0 0] 37)
  have hR := BoxC.new w 37 #[.int .i64 0, .int .i64 0, .slice none 0 0, .slice none 0 0]
  have C1 := Lib.hid (below_small g 5 _ (by decide) (by decide) hD0.2)
  go_enter Tryz.func75, Tryz.ntmps75
  go_wp2_with fail
  refine (C1.out).mono ?_
  rintro e w1 ⟨y, rfl, hy0, hy1, hd1⟩
  have hng : w.heap.size ≠ g := by omega
  have hz1 : w.heap.size < w1.heap.size := by have := hd1.1.size; simp at this; omega
  have hbX := (Below.refl w1.heap.size w1).alloc (Nat.le_refl _) (.cells #[.int .i64 z, .int .i64 y, .slice none 0 0, .slice none 0 0] 37)
  have HR := Lib.hid ((hR.drewn hd1 hng).later hbX)
  have HX := Lib.hid (BoxC.new w1 37 #[.int .i64 z, .int .i64 y, .slice none 0 0, .slice none 0 0])
  have HD := Lib.hid ((hD0.trans hd1).alloc (.cells #[.int .i64 z, .int .i64 y, .slice none 0 0, .slice none 0 0] 37))
  obtain ⟨p, hp⟩ : ∃ p, p = w1.heap.size := ⟨_, rfl⟩
  obtain ⟨w2, hw2⟩ : ∃ q, q = w1.alloc (.cells #[.int .i64 z, .int .i64 y, .slice none 0 0, .slice none 0 0] 37) := ⟨_, rfl⟩
  rw [← hw2] at HR HX HD
  rw [← hp] at HX
  have HP := Lib.hid hp
  have HW := Lib.hid hw2
  have hpw : w.heap.size < p := by omega
  have hpg : p ≠ g := by omega
  clear hR C1 hd1 hbX hD0 hw2 hp
  go_upto_region 2 with (fail)
  rw [← HW.out, ← HP.out]
  clear HW
  have hb2 : Below w2.heap.size w2 w2.drew := (Below.refl _ _).drew
  have hcD : Cur g w2.drew := Cur.below HD.out.2 hb2 HD.out.2.lt
  have HDD := Lib.hid (show Drew g w2 w2.drew from ⟨grown_drewN (grown_refl w2 (some g)) 1, hcD⟩)
  have JS := Lib.hid (some_any g w2.drew hcD)
  have x1 := HX.out.c 1 rfl
  have x2 := HX.out.c 2 rfl
  have HB2 := Lib.hid hb2
  clear hb2 hcD
  go_cut [] (fun wx => ∃ (u : Value) (R : List Int), R.length ≤ 6 ∧ BoxC wx w.heap.size 37 #[.int .i64 0, .int .i64 0, .slice none 0 0, .slice none 0 0] ∧ BoxC wx p 37 #[.int .i64 z, .int .i64 y, u, .slice none 0 0] ∧ OwnI w.heap.size wx u R ∧ Drew g w wx)
  case first =>
    go_region_with (first
      | (go_at_call 98; (with_reducible refine JS.out.mono ?_); rintro e w3 ⟨v3, l3, rfl, hl3, ho3, hd3⟩; have hdd := HDD.out.trans hd3; have hX3 := HX.out.drewn hdd hpg; have y1 := hX3.c 1 rfl; have y2 := hX3.c 2 rfl)
      | (go_at_call 88; (with_reducible refine (specPut _ _ _ _ _ (by omega) ho3).mono ?_); rintro e w4 ⟨v4, rfl, ho4, hb4⟩; obtain ⟨a4, c4, rfl⟩ := ho4.shape; have hX4 := hX3.later hb4; have q2 := hX4.c 2 rfl; have f2 := hX4.f 2))
    all_goals
      clear y1 y2 x1 x2
      go_wp2_with fail
      go_meet
      refine ⟨_, _, ?_, BoxC.keep ((HR.out.drewn hdd hng).later hb4) (Nat.ne_of_lt hpw) 2 _, hX4.put 2 _, ownI_put (OwnI.mono ho4 (by have := hdd.1.size; have := HD.out.1.size; omega)) hX4 (by decide) 2 _, ((HD.out.trans hdd).below (hb4.mono (by have := hdd.1.size; have := HD.out.1.size; omega)) hgs).setC (by omega) hgs 2 _⟩
      have := put_length l3 y
      omega
  case rest =>
    obtain ⟨u, R, hRl, hR', hX', ho, hD⟩ := hcut
    obtain ⟨ua, uc, rfl⟩ := ho.shape
    replace HR := Lib.hid hR'
    replace HX := Lib.hid hX'
    replace HD := Lib.hid hD
    have HO := Lib.hid ho
    clear hR' hX' hD JS HDD HB2 x1 x2 ho
    have x1 := HX.out.c 1 rfl
    have x2 := HX.out.c 2 rfl
    have f2 := HX.out.f 2
    have hpc := HX.out.lt
    have hwc := HD.out.1.size
    have hpn : p ≠ wc.heap.size := Nat.ne_of_lt hpc
    by_cases h3 : 3 < R.length
    · have h3' : (3 : Int) < (R.length : Int) := by omega
      go_wp2_with fail
      obtain ⟨wq, hwq⟩ : ∃ q, q = (wc.setCell ⟨p, 2, none⟩ (.slice (some ⟨wc.heap.size, 0, none⟩) 1 1)).alloc (.cells #[.int .i64 y] 3) := ⟨_, rfl⟩
      obtain ⟨wp, hwp⟩ : ∃ q, q = wc.setCell ⟨p, 2, none⟩ (.slice (some ⟨wc.heap.size, 0, none⟩) 1 1) := ⟨_, rfl⟩
      have hbA : Below wp.heap.size wp (wp.alloc (.cells #[.int .i64 y] 3)) := (Below.refl _ _).alloc (Nat.le_refl _) _
      have hsz : wp.heap.size = wc.heap.size := by rw [hwp, World.size_setCell]
      have HRP := Lib.hid (show BoxC wp w.heap.size 37 #[.int .i64 0, .int .i64 0, .slice none 0 0, .slice none 0 0] by rw [hwp]; exact HR.out.keep (Nat.ne_of_lt hpw) 2 _)
      have HXP := Lib.hid (show BoxC wp p 37 #[.int .i64 z, .int .i64 y, .slice (some ⟨wc.heap.size, 0, none⟩) 1 1, .slice none 0 0] by rw [hwp]; exact HX.out.put 2 _)
      have HDP := Lib.hid (show Drew g w wp by rw [hwp]; exact HD.out.setC (Nat.le_of_lt hpw) hgs 2 _)
      have hwq2 : wq = wp.alloc (.cells #[.int .i64 y] 3) := by rw [hwq, hwp]
      rw [← hwq]
      have HOQ := Lib.hid (show OwnI w.heap.size wq (.slice (some ⟨wc.heap.size, 0, none⟩) 1 1) [y] by
        rw [hwq2, ← hsz]
        exact World.ownsRow_lit wp #[.int .i64 y] 1 (by omega) (by unfold maxLen; omega) rfl)
      replace HR := Lib.hid (show BoxC wq w.heap.size 37 #[.int .i64 0, .int .i64 0, .slice none 0 0, .slice none 0 0] by rw [hwq2]; exact HRP.out.later hbA)
      replace HX := Lib.hid (show BoxC wq p 37 #[.int .i64 z, .int .i64 y, .slice (some ⟨wc.heap.size, 0, none⟩) 1 1, .slice none 0 0] by rw [hwq2]; exact HXP.out.later hbA)
      replace HD := Lib.hid (show Drew g w wq by rw [hwq2]; exact HDP.out.below (hbA.mono (by omega)) hgs)
      obtain ⟨ub, hub⟩ : ∃ q, q = some (⟨wc.heap.size, 0, none⟩ : Addr) := ⟨_, rfl⟩
      rw [← hub] at HOQ HX
      replace HO := HOQ
      clear HOQ HXP HRP HDP hwq2 hsz hbA hwp hwq x1 x2 f2 h3 h3' hpc hwc hpn hub hRl
      obtain ⟨R0, hR0⟩ : ∃ q, q = [y] := ⟨_, rfl⟩
      have hRl : R0.length ≤ 6 := by rw [hR0]; simp
      rw [show [y] = R0 from hR0.symm] at HO
      have HX1 := Lib.hid (show BoxC wq p 37 #[.int .i64 z, .int .i64 y, .slice ub R0.length 1, .slice none 0 0] by rw [hR0]; exact HX.out)
      have HO1 := Lib.hid (show OwnI w.heap.size wq (.slice ub R0.length 1) R0 by have h := HO.out; rw [hR0] at h ⊢; exact h)
      clear HX HO hR0
      have HX := HX1
      have HO := HO1
      clear HX1 HO1
      obtain ⟨ua, rfl⟩ : ∃ q, q = ub := ⟨_, rfl⟩
      obtain ⟨uc, huc⟩ : ∃ q : Nat, q = 1 := ⟨_, rfl⟩
      rw [← huc] at HX HO
      obtain ⟨R, rfl⟩ : ∃ q, q = R0 := ⟨_, rfl⟩
      clear huc
      have CO := Lib.hid (once_any g 2 wq (by decide) (by decide) HD.out.2)
      refine CO.out.mono ?_
      rintro e w6 ⟨b, rfl, hd6⟩
      replace HX := Lib.hid (HX.out.drewn hd6 hpg)
      replace HR := Lib.hid (HR.out.drewn hd6 hng)
      replace HO := Lib.hid (HO.out.drew hd6 hgs)
      replace HD := Lib.hid (HD.out.trans hd6)
      clear CO hd6
      cases b with
      | false =>
        have HW2 := Lib.hid (show OwnI w.heap.size w6 (.slice none 0 0) [] from World.ownsRow_nil _ _ _ _)
        have hr0 := HR.out.c 0 rfl
        have hr1 := HR.out.c 1 rfl
        have hr2 := HR.out.c 2 rfl
        have hr3 := HR.out.c 3 rfl
        have hf0 := HR.out.f 0
        have hf1 := HR.out.f 1
        have hf2 := HR.out.f 2
        have hf3 := HR.out.f 3
        have hx0 := HX.out.c 0 rfl
        have hx1 := HX.out.c 1 rfl
        have hx2 := HX.out.c 2 rfl
        have hx3 := HX.out.c 3 rfl
        go_wp2_with fail
        refine bodyPost_ret (v := .agg #[.int .i64 z, .int .i64 y, .slice ua R.length uc, .slice none 0 0]) (by simp [results, Tryz.results75, go_sem, hr0, hr1, hr2, hr3]) rfl ?_
        refine ⟨y, _, _, R, [], rfl, hRl, by simp, ?_, ?_, ?_⟩
        · exact ownI_put (ownI_put (ownI_put (ownI_put HO.out HR.out (by decide) 0 _) (HR.out.put 0 _) (by decide) 1 _) ((HR.out.put 0 _).put 1 _) (by decide) 2 _) (((HR.out.put 0 _).put 1 _).put 2 _) (by decide) 3 _
        · exact ownI_put (ownI_put (ownI_put (ownI_put HW2.out HR.out (by decide) 0 _) (HR.out.put 0 _) (by decide) 1 _) ((HR.out.put 0 _).put 1 _) (by decide) 2 _) (((HR.out.put 0 _).put 1 _).put 2 _) (by decide) 3 _
        · exact (((HD.out.setC (Nat.le_refl _) hgs 0 _).setC (Nat.le_refl _) hgs 1 _).setC (Nat.le_refl _) hgs 2 _).setC (Nat.le_refl _) hgs 3 _
      | true =>
        have hb7 : Below w6.heap.size w6 w6.drew := (Below.refl _ _).drew
        have hc7 : Cur g w6.drew := Cur.below HD.out.2 hb7 HD.out.2.lt
        have HD7 := Lib.hid (show Drew g w6 w6.drew from ⟨grown_drewN (grown_refl w6 (some g)) 1, hc7⟩)
        have JS := Lib.hid (some_any g w6.drew hc7)
        have x2 := HX.out.c 2 rfl
        clear hb7 hc7
        go_upto_region 6 with (fail)
        go_cut [6] (fun b wx => ∃ (u : Value) (S : List Int), b = u ∧ S.length ≤ 6 ∧ BoxC wx w.heap.size 37 #[.int .i64 0, .int .i64 0, .slice none 0 0, .slice none 0 0] ∧ BoxC wx p 37 #[.int .i64 z, .int .i64 y, .slice ua R.length uc, .slice none 0 0] ∧ OwnI w.heap.size wx (.slice ua R.length uc) R ∧ OwnI w.heap.size wx u S ∧ Drew g w wx)
        case first =>
          go_region_with (first
            | (go_at_call 98; (with_reducible refine JS.out.mono ?_); rintro e w8 ⟨v8, l8, rfl, hl8, ho8, hd8⟩; have hdd := HD7.out.trans hd8; have hX8 := HX.out.drewn hdd hpg; have y2 := hX8.c 2 rfl; have HO8 := Lib.hid (HO.out.drew hdd hgs))
            | (go_at_call 99; (with_reducible refine (specWithoutServers _ _ _ _ _ _ _ (by omega) ho8 (by omega) HO8.out).mono ?_); rintro e w9 ⟨v9, rfl, ho9, hb9⟩; obtain ⟨a9, c9, rfl⟩ := ho9.shape))
          all_goals
            clear x2 y2
            go_wp2_with fail
            go_meet
            have hs6 : w.heap.size ≤ w8.heap.size := by have := hdd.1.size; have := HD.out.1.size; omega
            refine ⟨_, without l8 R, rfl, ?_, (HR.out.drewn hdd hng).later hb9, hX8.later hb9, HO8.out.later hb9, OwnI.mono ho9 hs6, (HD.out.trans hdd).below (hb9.mono hs6) hgs⟩
            exact without_len6 l8 R (by omega)
        case rest =>
          obtain ⟨u, S, rfl, hSl, hR9, hX9, hO9, hW9, hD9⟩ := hcut
          obtain ⟨sa, sc, rfl⟩ := hW9.shape
          replace HR := Lib.hid hR9
          replace HX := Lib.hid hX9
          replace HO := Lib.hid hO9
          replace HD := Lib.hid hD9
          have HS := Lib.hid hW9
          have f3 := HX.out.f 3
          have x3 := HX.out.c 3 rfl
          clear hR9 hX9 hO9 hW9 hD9 JS HD7 x2
          by_cases h0 : 0 < S.length
          · obtain ⟨sg', sc', hv, hs1, hs2, _, _⟩ := HS.out.there h0
            injection hv with e1 e2 e3
            subst e1 e3
            have h0' : (0 : Int) < (S.length : Int) := by omega
            have hc1 : (1 : Int) ≤ (sc : Int) := by omega
            have hc1' : 1 ≤ sc := by omega
            have HW1 := Lib.hid (HS.out.first 1 h0)
            have hsl := fun W => run_first W sg' S.length sc hc1'
            unfold maxLen at hs2
            have hnp : w.heap.size ≠ p := Nat.ne_of_lt hpw
            clear hs1 x3
            have hr0 := HR.out.c 0 rfl
            have hr1 := HR.out.c 1 rfl
            have hr2 := HR.out.c 2 rfl
            have hr3 := HR.out.c 3 rfl
            have hf0 := HR.out.f 0
            have hf1 := HR.out.f 1
            have hf2 := HR.out.f 2
            have hf3 := HR.out.f 3
            have hx0 := HX.out.c 0 rfl
            have hx1 := HX.out.c 1 rfl
            have hx2 := HX.out.c 2 rfl
            have hx3 := HX.out.c 3 rfl
            go_wp2_with fail
            have HW2 := Lib.hid (ownI_put HW1.out HX.out (by decide) 3 (.slice (some ⟨sg', 0, none⟩) 1 sc))
            replace HO := Lib.hid (ownI_put HO.out HX.out (by decide) 3 (.slice (some ⟨sg', 0, none⟩) 1 sc))
            replace HR := Lib.hid (HR.out.keep (Nat.ne_of_lt hpw) 3 (.slice (some ⟨sg', 0, none⟩) 1 sc))
            replace HD := Lib.hid (HD.out.setC (Nat.le_of_lt hpw) hgs 3 (.slice (some ⟨sg', 0, none⟩) 1 sc))
            refine bodyPost_ret (v := .agg #[.int .i64 z, .int .i64 y, .slice ua R.length uc, .slice (some ⟨sg', 0, none⟩) 1 sc]) (by simp [results, Tryz.results75, go_sem, hr0, hr1, hr2, hr3]) rfl ?_
            refine ⟨y, _, _, R, S.take 1, rfl, hRl, by simp; omega, ?_, ?_, ?_⟩
            · exact ownI_put (ownI_put (ownI_put (ownI_put HO.out HR.out (by decide) 0 _) (HR.out.put 0 _) (by decide) 1 _) ((HR.out.put 0 _).put 1 _) (by decide) 2 _) (((HR.out.put 0 _).put 1 _).put 2 _) (by decide) 3 _
            · exact ownI_put (ownI_put (ownI_put (ownI_put HW2.out HR.out (by decide) 0 _) (HR.out.put 0 _) (by decide) 1 _) ((HR.out.put 0 _).put 1 _) (by decide) 2 _) (((HR.out.put 0 _).put 1 _).put 2 _) (by decide) 3 _
            · exact (((HD.out.setC (Nat.le_refl _) hgs 0 _).setC (Nat.le_refl _) hgs 1 _).setC (Nat.le_refl _) hgs 2 _).setC (Nat.le_refl _) hgs 3 _
          · have hS0 : S = [] := List.eq_nil_of_length_eq_zero (by omega)
            subst hS0
            have HW2 := Lib.hid (show OwnI w.heap.size wc (.slice none 0 0) [] from World.ownsRow_nil _ _ _ _)
            clear x3 f3 HS h0
            have hr0 := HR.out.c 0 rfl
            have hr1 := HR.out.c 1 rfl
            have hr2 := HR.out.c 2 rfl
            have hr3 := HR.out.c 3 rfl
            have hf0 := HR.out.f 0
            have hf1 := HR.out.f 1
            have hf2 := HR.out.f 2
            have hf3 := HR.out.f 3
            have hx0 := HX.out.c 0 rfl
            have hx1 := HX.out.c 1 rfl
            have hx2 := HX.out.c 2 rfl
            have hx3 := HX.out.c 3 rfl
            go_wp2_with fail
            refine bodyPost_ret (v := .agg #[.int .i64 z, .int .i64 y, .slice ua R.length uc, .slice none 0 0]) (by simp [results, Tryz.results75, go_sem, hr0, hr1, hr2, hr3]) rfl ?_
            refine ⟨y, _, _, R, [], rfl, hRl, by simp, ?_, ?_, ?_⟩
            · exact ownI_put (ownI_put (ownI_put (ownI_put HO.out HR.out (by decide) 0 _) (HR.out.put 0 _) (by decide) 1 _) ((HR.out.put 0 _).put 1 _) (by decide) 2 _) (((HR.out.put 0 _).put 1 _).put 2 _) (by decide) 3 _
            · exact ownI_put (ownI_put (ownI_put (ownI_put HW2.out HR.out (by decide) 0 _) (HR.out.put 0 _) (by decide) 1 _) ((HR.out.put 0 _).put 1 _) (by decide) 2 _) (((HR.out.put 0 _).put 1 _).put 2 _) (by decide) 3 _
            · exact (((HD.out.setC (Nat.le_refl _) hgs 0 _).setC (Nat.le_refl _) hgs 1 _).setC (Nat.le_refl _) hgs 2 _).setC (Nat.le_refl _) hgs 3 _
    · have h3' : ¬ (3 : Int) < (R.length : Int) := by omega
      obtain ⟨wq, rfl⟩ : ∃ q, q = wc := ⟨_, rfl⟩
      go_wp2_with fail
      clear x1 x2 f2 h3 h3'
      have CO := Lib.hid (once_any g 2 wq (by decide) (by decide) HD.out.2)
      refine CO.out.mono ?_
      rintro e w6 ⟨b, rfl, hd6⟩
      replace HX := Lib.hid (HX.out.drewn hd6 hpg)
      replace HR := Lib.hid (HR.out.drewn hd6 hng)
      replace HO := Lib.hid (HO.out.drew hd6 hgs)
      replace HD := Lib.hid (HD.out.trans hd6)
      clear CO hd6
      cases b with
      | false =>
        have HW2 := Lib.hid (show OwnI w.heap.size w6 (.slice none 0 0) [] from World.ownsRow_nil _ _ _ _)
        have hr0 := HR.out.c 0 rfl
        have hr1 := HR.out.c 1 rfl
        have hr2 := HR.out.c 2 rfl
        have hr3 := HR.out.c 3 rfl
        have hf0 := HR.out.f 0
        have hf1 := HR.out.f 1
        have hf2 := HR.out.f 2
        have hf3 := HR.out.f 3
        have hx0 := HX.out.c 0 rfl
        have hx1 := HX.out.c 1 rfl
        have hx2 := HX.out.c 2 rfl
        have hx3 := HX.out.c 3 rfl
        go_wp2_with fail
        refine bodyPost_ret (v := .agg #[.int .i64 z, .int .i64 y, .slice ua R.length uc, .slice none 0 0]) (by simp [results, Tryz.results75, go_sem, hr0, hr1, hr2, hr3]) rfl ?_
        refine ⟨y, _, _, R, [], rfl, hRl, by simp, ?_, ?_, ?_⟩
        · exact ownI_put (ownI_put (ownI_put (ownI_put HO.out HR.out (by decide) 0 _) (HR.out.put 0 _) (by decide) 1 _) ((HR.out.put 0 _).put 1 _) (by decide) 2 _) (((HR.out.put 0 _).put 1 _).put 2 _) (by decide) 3 _
        · exact ownI_put (ownI_put (ownI_put (ownI_put HW2.out HR.out (by decide) 0 _) (HR.out.put 0 _) (by decide) 1 _) ((HR.out.put 0 _).put 1 _) (by decide) 2 _) (((HR.out.put 0 _).put 1 _).put 2 _) (by decide) 3 _
        · exact (((HD.out.setC (Nat.le_refl _) hgs 0 _).setC (Nat.le_refl _) hgs 1 _).setC (Nat.le_refl _) hgs 2 _).setC (Nat.le_refl _) hgs 3 _
      | true =>
        have hb7 : Below w6.heap.size w6 w6.drew := (Below.refl _ _).drew
        have hc7 : Cur g w6.drew := Cur.below HD.out.2 hb7 HD.out.2.lt
        have HD7 := Lib.hid (show Drew g w6 w6.drew from ⟨grown_drewN (grown_refl w6 (some g)) 1, hc7⟩)
        have JS := Lib.hid (some_any g w6.drew hc7)
        have x2 := HX.out.c 2 rfl
        clear hb7 hc7
        go_upto_region 6 with (fail)
        go_cut [6] (fun b wx => ∃ (u : Value) (S : List Int), b = u ∧ S.length ≤ 6 ∧ BoxC wx w.heap.size 37 #[.int .i64 0, .int .i64 0, .slice none 0 0, .slice none 0 0] ∧ BoxC wx p 37 #[.int .i64 z, .int .i64 y, .slice ua R.length uc, .slice none 0 0] ∧ OwnI w.heap.size wx (.slice ua R.length uc) R ∧ OwnI w.heap.size wx u S ∧ Drew g w wx)
        case first =>
          go_region_with (first
            | (go_at_call 98; (with_reducible refine JS.out.mono ?_); rintro e w8 ⟨v8, l8, rfl, hl8, ho8, hd8⟩; have hdd := HD7.out.trans hd8; have hX8 := HX.out.drewn hdd hpg; have y2 := hX8.c 2 rfl; have HO8 := Lib.hid (HO.out.drew hdd hgs))
            | (go_at_call 99; (with_reducible refine (specWithoutServers _ _ _ _ _ _ _ (by omega) ho8 (by omega) HO8.out).mono ?_); rintro e w9 ⟨v9, rfl, ho9, hb9⟩; obtain ⟨a9, c9, rfl⟩ := ho9.shape))
          all_goals
            clear x2 y2
            go_wp2_with fail
            go_meet
            have hs6 : w.heap.size ≤ w8.heap.size := by have := hdd.1.size; have := HD.out.1.size; omega
            refine ⟨_, without l8 R, rfl, ?_, (HR.out.drewn hdd hng).later hb9, hX8.later hb9, HO8.out.later hb9, OwnI.mono ho9 hs6, (HD.out.trans hdd).below (hb9.mono hs6) hgs⟩
            exact without_len6 l8 R (by omega)
        case rest =>
          obtain ⟨u, S, rfl, hSl, hR9, hX9, hO9, hW9, hD9⟩ := hcut
          obtain ⟨sa, sc, rfl⟩ := hW9.shape
          replace HR := Lib.hid hR9
          replace HX := Lib.hid hX9
          replace HO := Lib.hid hO9
          replace HD := Lib.hid hD9
          have HS := Lib.hid hW9
          have f3 := HX.out.f 3
          have x3 := HX.out.c 3 rfl
          clear hR9 hX9 hO9 hW9 hD9 JS HD7 x2
          by_cases h0 : 0 < S.length
          · obtain ⟨sg', sc', hv, hs1, hs2, _, _⟩ := HS.out.there h0
            injection hv with e1 e2 e3
            subst e1 e3
            have h0' : (0 : Int) < (S.length : Int) := by omega
            have hc1 : (1 : Int) ≤ (sc : Int) := by omega
            have hc1' : 1 ≤ sc := by omega
            have HW1 := Lib.hid (HS.out.first 1 h0)
            have hsl := fun W => run_first W sg' S.length sc hc1'
            unfold maxLen at hs2
            have hnp : w.heap.size ≠ p := Nat.ne_of_lt hpw
            clear hs1 x3
            have hr0 := HR.out.c 0 rfl
            have hr1 := HR.out.c 1 rfl
            have hr2 := HR.out.c 2 rfl
            have hr3 := HR.out.c 3 rfl
            have hf0 := HR.out.f 0
            have hf1 := HR.out.f 1
            have hf2 := HR.out.f 2
            have hf3 := HR.out.f 3
            have hx0 := HX.out.c 0 rfl
            have hx1 := HX.out.c 1 rfl
            have hx2 := HX.out.c 2 rfl
            have hx3 := HX.out.c 3 rfl
            go_wp2_with fail
            have HW2 := Lib.hid (ownI_put HW1.out HX.out (by decide) 3 (.slice (some ⟨sg', 0, none⟩) 1 sc))
            replace HO := Lib.hid (ownI_put HO.out HX.out (by decide) 3 (.slice (some ⟨sg', 0, none⟩) 1 sc))
            replace HR := Lib.hid (HR.out.keep (Nat.ne_of_lt hpw) 3 (.slice (some ⟨sg', 0, none⟩) 1 sc))
            replace HD := Lib.hid (HD.out.setC (Nat.le_of_lt hpw) hgs 3 (.slice (some ⟨sg', 0, none⟩) 1 sc))
            refine bodyPost_ret (v := .agg #[.int .i64 z, .int .i64 y, .slice ua R.length uc, .slice (some ⟨sg', 0, none⟩) 1 sc]) (by simp [results, Tryz.results75, go_sem, hr0, hr1, hr2, hr3]) rfl ?_
            refine ⟨y, _, _, R, S.take 1, rfl, hRl, by simp; omega, ?_, ?_, ?_⟩
            · exact ownI_put (ownI_put (ownI_put (ownI_put HO.out HR.out (by decide) 0 _) (HR.out.put 0 _) (by decide) 1 _) ((HR.out.put 0 _).put 1 _) (by decide) 2 _) (((HR.out.put 0 _).put 1 _).put 2 _) (by decide) 3 _
            · exact ownI_put (ownI_put (ownI_put (ownI_put HW2.out HR.out (by decide) 0 _) (HR.out.put 0 _) (by decide) 1 _) ((HR.out.put 0 _).put 1 _) (by decide) 2 _) (((HR.out.put 0 _).put 1 _).put 2 _) (by decide) 3 _
            · exact (((HD.out.setC (Nat.le_refl _) hgs 0 _).setC (Nat.le_refl _) hgs 1 _).setC (Nat.le_refl _) hgs 2 _).setC (Nat.le_refl _) hgs 3 _
          · have hS0 : S = [] := List.eq_nil_of_length_eq_zero (by omega)
            subst hS0
            have HW2 := Lib.hid (show OwnI w.heap.size wc (.slice none 0 0) [] from World.ownsRow_nil _ _ _ _)
            clear x3 f3 HS h0
            have hr0 := HR.out.c 0 rfl
            have hr1 := HR.out.c 1 rfl
            have hr2 := HR.out.c 2 rfl
            have hr3 := HR.out.c 3 rfl
            have hf0 := HR.out.f 0
            have hf1 := HR.out.f 1
            have hf2 := HR.out.f 2
            have hf3 := HR.out.f 3
            have hx0 := HX.out.c 0 rfl
            have hx1 := HX.out.c 1 rfl
            have hx2 := HX.out.c 2 rfl
            have hx3 := HX.out.c 3 rfl
            go_wp2_with fail
            refine bodyPost_ret (v := .agg #[.int .i64 z, .int .i64 y, .slice ua R.length uc, .slice none 0 0]) (by simp [results, Tryz.results75, go_sem, hr0, hr1, hr2, hr3]) rfl ?_
            refine ⟨y, _, _, R, [], rfl, hRl, by simp, ?_, ?_, ?_⟩
            · exact ownI_put (ownI_put (ownI_put (ownI_put HO.out HR.out (by decide) 0 _) (HR.out.put 0 _) (by decide) 1 _) ((HR.out.put 0 _).put 1 _) (by decide) 2 _) (((HR.out.put 0 _).put 1 _).put 2 _) (by decide) 3 _
            · exact ownI_put (ownI_put (ownI_put (ownI_put HW2.out HR.out (by decide) 0 _) (HR.out.put 0 _) (by decide) 1 _) ((HR.out.put 0 _).put 1 _) (by decide) 2 _) (((HR.out.put 0 _).put 1 _).put 2 _) (by decide) 3 _
            · exact (((HD.out.setC (Nat.le_refl _) hgs 0 _).setC (Nat.le_refl _) hgs 1 _).setC (Nat.le_refl _) hgs 2 _).setC (Nat.le_refl _) hgs 3 _
def CfgAll (g : Nat) (w : World) (e : Ending) (w' : World) : Prop := ∃ (x y : Int) (u1 u2 : Value) (R1 R2 : List Int), e = .returned (.agg #[.int .i64 x, .int .i64 y, u1, u2]) ∧ R1.length ≤ 6 ∧ R2.length ≤ 6 ∧ OwnI w.heap.size w' u1 R1 ∧ OwnI w.heap.size w' u2 R2 ∧ Drew g w w'
set_option maxRecDepth 100000 in
set_option maxHeartbeats 8000000 in
theorem any8_any (g : Nat) (w : World) (hc : Cur g w) : Calls Tryz.prog 41 #[.pointer (some ⟨g, 0, none⟩)] w (CfgAll g w) := by
  have hgs := hc.lt
  have hng : w.heap.size ≠ g := by omega
  have hD0 := (Drew.refl hc).alloc (.cells #[.int .i64 0, .int .i64 0, .slice none 0 0, .slice none 0 0] 37)
  have hR := BoxC.new w 37 #[.int .i64 0, .int .i64 0, .slice none 0 0, .slice none 0 0]
  have C1 := Lib.hid (below_small g 4 _ (by decide) (by decide) hD0.2)
  go_enter Tryz.func41, Tryz.ntmps41
  go_wp2_with fail
  refine (C1.out).mono ?_
  rintro e w1 ⟨z, rfl, hz0, hz1, hd1⟩
  have hD1 := hD0.trans hd1
  have hR1 := hR.drewn hd1 hng
  have C2 := Lib.hid (config_any g (1 + z) w1 hD1.2)
  have hsz1 := hD1.1.size
  clear C1 hd1 hD0 hR
  go_wp2_with fail
  refine (C2.out).mono ?_
  rintro e w2 ⟨y, u1, u2, R1, R2, rfl, hl1, hl2, ho1, ho2, hd2⟩
  have hz2 : w.heap.size < w2.heap.size := (hR1.drewn hd2 hng).lt
  have hbX := (Below.refl w2.heap.size w2).alloc (Nat.le_refl _) (.cells #[.int .i64 (1 + z), .int .i64 y, u1, u2] 37)
  have HR := Lib.hid ((hR1.drewn hd2 hng).later hbX)
  have HX := Lib.hid (BoxC.new w2 37 #[.int .i64 (1 + z), .int .i64 y, u1, u2])
  have HD := Lib.hid ((hD1.trans hd2).alloc (.cells #[.int .i64 (1 + z), .int .i64 y, u1, u2] 37))
  have HO1 := Lib.hid ((OwnI.mono ho1 hsz1).later hbX)
  have HO2 := Lib.hid ((OwnI.mono ho2 hsz1).later hbX)
  obtain ⟨a1, c1, rfl⟩ := ho1.shape
  obtain ⟨a2, c2, rfl⟩ := ho2.shape
  obtain ⟨p, hp⟩ : ∃ p, p = w2.heap.size := ⟨_, rfl⟩
  obtain ⟨w3, hw3⟩ : ∃ q, q = w2.alloc (.cells #[.int .i64 (1 + z), .int .i64 y, .slice a1 R1.length c1, .slice a2 R2.length c2] 37) := ⟨_, rfl⟩
  rw [← hw3] at HR HX HD HO1 HO2
  rw [← hp] at HX
  have HP := Lib.hid hp
  have HW := Lib.hid hw3
  have hpw : w.heap.size < p := by omega
  have hnp : w.heap.size ≠ p := Nat.ne_of_lt hpw
  have hpg : p ≠ g := by omega
  have C3 := Lib.hid (below_small g 14 w3 (by decide) (by decide) HD.out.2)
  obtain ⟨x, hx⟩ : ∃ x, x = 1 + z := ⟨_, rfl⟩
  rw [← hx] at HX HW
  clear C2 hd2 hD1 hR1 hbX ho1 ho2 hw3 hp hz2 hsz1
  go_wp2_with fail
  rw [← hx, ← HW.out, ← HP.out]
  clear HW HP hx
  refine (C3.out).mono ?_
  rintro e w4 ⟨k, rfl, hk0, hk1, hd4⟩
  have hdq := hd4
  clear hd4 C3
  replace HR := Lib.hid (HR.out.drewn hdq hng)
  replace HX := Lib.hid (HX.out.drewn hdq hpg)
  replace HO1 := Lib.hid (HO1.out.drew hdq hgs)
  replace HO2 := Lib.hid (HO2.out.drew hdq hgs)
  replace HD := Lib.hid (HD.out.trans hdq)
  clear hdq
  have hk : k = 0 ∨ k = 1 ∨ k = 2 ∨ k = 3 ∨ 4 ≤ k := by omega
  rcases hk with rfl | rfl | rfl | rfl | hk
  · clear hk0 hk1
    have j0 := pick_lits HD.out.2 [0, 20, 21] (by decide) (by decide) (by unfold fits; decide)
    simp only [List.map_cons, List.map_nil, List.length_cons, List.length_nil, Nat.reduceAdd] at j0
    have J := Lib.hid j0
    clear j0
    go_wp2_with fail
    refine (J.out).mono ?_
    rintro e w5 ⟨v, rfl, _, hdq⟩
    clear J
    replace HR := Lib.hid (HR.out.drewn hdq hng)
    replace HX := Lib.hid (HX.out.drewn hdq hpg)
    replace HO1 := Lib.hid (HO1.out.drew hdq hgs)
    replace HO2 := Lib.hid (HO2.out.drew hdq hgs)
    replace HD := Lib.hid (HD.out.trans hdq)
    clear hdq
    have hr0 := HR.out.c 0 rfl
    have hr1 := HR.out.c 1 rfl
    have hr2 := HR.out.c 2 rfl
    have hr3 := HR.out.c 3 rfl
    have hf0 := HR.out.f 0
    have hf1 := HR.out.f 1
    have hf2 := HR.out.f 2
    have hf3 := HR.out.f 3
    have hx0 := HX.out.c 0 rfl
    have hx1 := HX.out.c 1 rfl
    have hx2 := HX.out.c 2 rfl
    have hx3 := HX.out.c 3 rfl
    have hg0 := HX.out.f 0
    have hg1 := HX.out.f 1
    have hg2 := HX.out.f 2
    have hg3 := HX.out.f 3
    go_wp2_with fail
    replace HO1 := Lib.hid (ownI_put HO1.out HX.out (by decide) 0 (.int .i64 v))
    replace HO2 := Lib.hid (ownI_put HO2.out HX.out (by decide) 0 (.int .i64 v))
    replace HR := Lib.hid (HR.out.keep hnp 0 (.int .i64 v))
    replace HD := Lib.hid (HD.out.setC (Nat.le_of_lt hpw) hgs 0 (.int .i64 v))
    refine bodyPost_ret (v := .agg #[.int .i64 v, .int .i64 y, .slice a1 R1.length c1, .slice a2 R2.length c2]) (by simp [results, Tryz.results41, go_sem, hr0, hr1, hr2, hr3, hnp]) rfl ?_
    refine ⟨v, y, _, _, R1, R2, rfl, hl1, hl2, ?_, ?_, ?_⟩
    · exact ownI_put (ownI_put (ownI_put (ownI_put HO1.out HR.out (by decide) 0 _) (HR.out.put 0 _) (by decide) 1 _) ((HR.out.put 0 _).put 1 _) (by decide) 2 _) (((HR.out.put 0 _).put 1 _).put 2 _) (by decide) 3 _
    · exact ownI_put (ownI_put (ownI_put (ownI_put HO2.out HR.out (by decide) 0 _) (HR.out.put 0 _) (by decide) 1 _) ((HR.out.put 0 _).put 1 _) (by decide) 2 _) (((HR.out.put 0 _).put 1 _).put 2 _) (by decide) 3 _
    · exact (((HD.out.setC (Nat.le_refl _) hgs 0 _).setC (Nat.le_refl _) hgs 1 _).setC (Nat.le_refl _) hgs 2 _).setC (Nat.le_refl _) hgs 3 _
  · clear hk0 hk1
    have J := Lib.hid (below_small g 7 w4 (by decide) (by decide) HD.out.2)
    go_wp2_with fail
    refine (J.out).mono ?_
    rintro e w5 ⟨v, rfl, hv0, hv1, hdq⟩
    have hw : IntKind.i64.wrap (v - 1) = v - 1 := IntWalk.i64_in _ (by omega)
    clear J
    replace HR := Lib.hid (HR.out.drewn hdq hng)
    replace HX := Lib.hid (HX.out.drewn hdq hpg)
    replace HO1 := Lib.hid (HO1.out.drew hdq hgs)
    replace HO2 := Lib.hid (HO2.out.drew hdq hgs)
    replace HD := Lib.hid (HD.out.trans hdq)
    clear hdq
    have hr0 := HR.out.c 0 rfl
    have hr1 := HR.out.c 1 rfl
    have hr2 := HR.out.c 2 rfl
    have hr3 := HR.out.c 3 rfl
    have hf0 := HR.out.f 0
    have hf1 := HR.out.f 1
    have hf2 := HR.out.f 2
    have hf3 := HR.out.f 3
    have hx0 := HX.out.c 0 rfl
    have hx1 := HX.out.c 1 rfl
    have hx2 := HX.out.c 2 rfl
    have hx3 := HX.out.c 3 rfl
    have hg0 := HX.out.f 0
    have hg1 := HX.out.f 1
    have hg2 := HX.out.f 2
    have hg3 := HX.out.f 3
    go_wp2_with fail
    replace HO1 := Lib.hid (ownI_put HO1.out HX.out (by decide) 1 (.int .i64 (v - 1)))
    replace HO2 := Lib.hid (ownI_put HO2.out HX.out (by decide) 1 (.int .i64 (v - 1)))
    replace HR := Lib.hid (HR.out.keep hnp 1 (.int .i64 (v - 1)))
    replace HD := Lib.hid (HD.out.setC (Nat.le_of_lt hpw) hgs 1 (.int .i64 (v - 1)))
    refine bodyPost_ret (v := .agg #[.int .i64 x, .int .i64 (v - 1), .slice a1 R1.length c1, .slice a2 R2.length c2]) (by simp [results, Tryz.results41, go_sem, hr0, hr1, hr2, hr3, hnp]) rfl ?_
    refine ⟨x, v - 1, _, _, R1, R2, rfl, hl1, hl2, ?_, ?_, ?_⟩
    · exact ownI_put (ownI_put (ownI_put (ownI_put HO1.out HR.out (by decide) 0 _) (HR.out.put 0 _) (by decide) 1 _) ((HR.out.put 0 _).put 1 _) (by decide) 2 _) (((HR.out.put 0 _).put 1 _).put 2 _) (by decide) 3 _
    · exact ownI_put (ownI_put (ownI_put (ownI_put HO2.out HR.out (by decide) 0 _) (HR.out.put 0 _) (by decide) 1 _) ((HR.out.put 0 _).put 1 _) (by decide) 2 _) (((HR.out.put 0 _).put 1 _).put 2 _) (by decide) 3 _
    · exact (((HD.out.setC (Nat.le_refl _) hgs 0 _).setC (Nat.le_refl _) hgs 1 _).setC (Nat.le_refl _) hgs 2 _).setC (Nat.le_refl _) hgs 3 _
  · clear hk0 hk1
    have J := Lib.hid (any_any g w4 HD.out.2)
    have hsz := HD.out.1.size
    go_wp2_with fail
    refine (J.out).mono ?_
    rintro e w5 ⟨v, S, rfl, hlS, hov, hdq⟩
    obtain ⟨av, cv, rfl⟩ := hov.shape
    clear J
    replace HR := Lib.hid (HR.out.drewn hdq hng)
    replace HX := Lib.hid (HX.out.drewn hdq hpg)
    replace HO1 := Lib.hid (HO1.out.drew hdq hgs)
    replace HO2 := Lib.hid (HO2.out.drew hdq hgs)
    replace HD := Lib.hid (HD.out.trans hdq)
    clear hdq
    have hr0 := HR.out.c 0 rfl
    have hr1 := HR.out.c 1 rfl
    have hr2 := HR.out.c 2 rfl
    have hr3 := HR.out.c 3 rfl
    have hf0 := HR.out.f 0
    have hf1 := HR.out.f 1
    have hf2 := HR.out.f 2
    have hf3 := HR.out.f 3
    have hx0 := HX.out.c 0 rfl
    have hx1 := HX.out.c 1 rfl
    have hx2 := HX.out.c 2 rfl
    have hx3 := HX.out.c 3 rfl
    have hg0 := HX.out.f 0
    have hg1 := HX.out.f 1
    have hg2 := HX.out.f 2
    have hg3 := HX.out.f 3
    replace HO1 := Lib.hid (OwnI.mono hov hsz)
    clear hov
    go_wp2_with fail
    replace HO1 := Lib.hid (ownI_put HO1.out HX.out (by decide) 2 (.slice av S.length cv))
    replace HO2 := Lib.hid (ownI_put HO2.out HX.out (by decide) 2 (.slice av S.length cv))
    replace HR := Lib.hid (HR.out.keep hnp 2 (.slice av S.length cv))
    replace HD := Lib.hid (HD.out.setC (Nat.le_of_lt hpw) hgs 2 (.slice av S.length cv))
    refine bodyPost_ret (v := .agg #[.int .i64 x, .int .i64 y, .slice av S.length cv, .slice a2 R2.length c2]) (by simp [results, Tryz.results41, go_sem, hr0, hr1, hr2, hr3, hnp]) rfl ?_
    refine ⟨x, y, _, _, S, R2, rfl, hlS, hl2, ?_, ?_, ?_⟩
    · exact ownI_put (ownI_put (ownI_put (ownI_put HO1.out HR.out (by decide) 0 _) (HR.out.put 0 _) (by decide) 1 _) ((HR.out.put 0 _).put 1 _) (by decide) 2 _) (((HR.out.put 0 _).put 1 _).put 2 _) (by decide) 3 _
    · exact ownI_put (ownI_put (ownI_put (ownI_put HO2.out HR.out (by decide) 0 _) (HR.out.put 0 _) (by decide) 1 _) ((HR.out.put 0 _).put 1 _) (by decide) 2 _) (((HR.out.put 0 _).put 1 _).put 2 _) (by decide) 3 _
    · exact (((HD.out.setC (Nat.le_refl _) hgs 0 _).setC (Nat.le_refl _) hgs 1 _).setC (Nat.le_refl _) hgs 2 _).setC (Nat.le_refl _) hgs 3 _
  · clear hk0 hk1
    have J := Lib.hid (any_any g w4 HD.out.2)
    have hsz := HD.out.1.size
    go_wp2_with fail
    refine (J.out).mono ?_
    rintro e w5 ⟨v, S, rfl, hlS, hov, hdq⟩
    obtain ⟨av, cv, rfl⟩ := hov.shape
    clear J
    replace HR := Lib.hid (HR.out.drewn hdq hng)
    replace HX := Lib.hid (HX.out.drewn hdq hpg)
    replace HO1 := Lib.hid (HO1.out.drew hdq hgs)
    replace HO2 := Lib.hid (HO2.out.drew hdq hgs)
    replace HD := Lib.hid (HD.out.trans hdq)
    clear hdq
    have hr0 := HR.out.c 0 rfl
    have hr1 := HR.out.c 1 rfl
    have hr2 := HR.out.c 2 rfl
    have hr3 := HR.out.c 3 rfl
    have hf0 := HR.out.f 0
    have hf1 := HR.out.f 1
    have hf2 := HR.out.f 2
    have hf3 := HR.out.f 3
    have hx0 := HX.out.c 0 rfl
    have hx1 := HX.out.c 1 rfl
    have hx2 := HX.out.c 2 rfl
    have hx3 := HX.out.c 3 rfl
    have hg0 := HX.out.f 0
    have hg1 := HX.out.f 1
    have hg2 := HX.out.f 2
    have hg3 := HX.out.f 3
    replace HO2 := Lib.hid (OwnI.mono hov hsz)
    clear hov
    go_wp2_with fail
    replace HO1 := Lib.hid (ownI_put HO1.out HX.out (by decide) 3 (.slice av S.length cv))
    replace HO2 := Lib.hid (ownI_put HO2.out HX.out (by decide) 3 (.slice av S.length cv))
    replace HR := Lib.hid (HR.out.keep hnp 3 (.slice av S.length cv))
    replace HD := Lib.hid (HD.out.setC (Nat.le_of_lt hpw) hgs 3 (.slice av S.length cv))
    refine bodyPost_ret (v := .agg #[.int .i64 x, .int .i64 y, .slice a1 R1.length c1, .slice av S.length cv]) (by simp [results, Tryz.results41, go_sem, hr0, hr1, hr2, hr3, hnp]) rfl ?_
    refine ⟨x, y, _, _, R1, S, rfl, hl1, hlS, ?_, ?_, ?_⟩
    · exact ownI_put (ownI_put (ownI_put (ownI_put HO1.out HR.out (by decide) 0 _) (HR.out.put 0 _) (by decide) 1 _) ((HR.out.put 0 _).put 1 _) (by decide) 2 _) (((HR.out.put 0 _).put 1 _).put 2 _) (by decide) 3 _
    · exact ownI_put (ownI_put (ownI_put (ownI_put HO2.out HR.out (by decide) 0 _) (HR.out.put 0 _) (by decide) 1 _) ((HR.out.put 0 _).put 1 _) (by decide) 2 _) (((HR.out.put 0 _).put 1 _).put 2 _) (by decide) 3 _
    · exact (((HD.out.setC (Nat.le_refl _) hgs 0 _).setC (Nat.le_refl _) hgs 1 _).setC (Nat.le_refl _) hgs 2 _).setC (Nat.le_refl _) hgs 3 _
  · have g0 : (k == 0) = false := by rw [beq_eq_false_iff_ne]; omega
    have g1 : (k == 1) = false := by rw [beq_eq_false_iff_ne]; omega
    have g2 : (k == 2) = false := by rw [beq_eq_false_iff_ne]; omega
    have g3 : (k == 3) = false := by rw [beq_eq_false_iff_ne]; omega
    clear hk hk0 hk1
    have hr0 := HR.out.c 0 rfl
    have hr1 := HR.out.c 1 rfl
    have hr2 := HR.out.c 2 rfl
    have hr3 := HR.out.c 3 rfl
    have hf0 := HR.out.f 0
    have hf1 := HR.out.f 1
    have hf2 := HR.out.f 2
    have hf3 := HR.out.f 3
    have hx0 := HX.out.c 0 rfl
    have hx1 := HX.out.c 1 rfl
    have hx2 := HX.out.c 2 rfl
    have hx3 := HX.out.c 3 rfl
    have hg0 := HX.out.f 0
    have hg1 := HX.out.f 1
    have hg2 := HX.out.f 2
    have hg3 := HX.out.f 3
    go_wp2_with fail
    refine bodyPost_ret (v := .agg #[.int .i64 x, .int .i64 y, .slice a1 R1.length c1, .slice a2 R2.length c2]) (by simp [results, Tryz.results41, go_sem, hr0, hr1, hr2, hr3, hnp]) rfl ?_
    refine ⟨x, y, _, _, R1, R2, rfl, hl1, hl2, ?_, ?_, ?_⟩
    · exact ownI_put (ownI_put (ownI_put (ownI_put HO1.out HR.out (by decide) 0 _) (HR.out.put 0 _) (by decide) 1 _) ((HR.out.put 0 _).put 1 _) (by decide) 2 _) (((HR.out.put 0 _).put 1 _).put 2 _) (by decide) 3 _
    · exact ownI_put (ownI_put (ownI_put (ownI_put HO2.out HR.out (by decide) 0 _) (HR.out.put 0 _) (by decide) 1 _) ((HR.out.put 0 _).put 1 _) (by decide) 2 _) (((HR.out.put 0 _).put 1 _).put 2 _) (by decide) 3 _
    · exact (((HD.out.setC (Nat.le_refl _) hgs 0 _).setC (Nat.le_refl _) hgs 1 _).setC (Nat.le_refl _) hgs 2 _).setC (Nat.le_refl _) hgs 3 _
/-- a drawn configuration and number, in memory of the call's own -/
def CfgInt (w : World) (e : Ending) (w' : World) : Prop := ∃ (x y : Int) (u1 u2 : Value) (R1 R2 : List Int) (i : Int), e = .returned (.tuple #[.agg #[.int .i64 x, .int .i64 y, u1, u2], .int .i64 i]) ∧ R1.length ≤ 6 ∧ R2.length ≤ 6 ∧ OwnI w.heap.size w' u1 R1 ∧ OwnI w.heap.size w' u2 R2 ∧ Below w.heap.size w w'
end Go.Proofs.YtgjebjoaemeeoaaGreatDoor.kit
namespace Go.Proofs.YtgjebjoaemeeoaaGreatDoor.kit
open Go.ChangeShapes Go.WideShapes Go.ChangeAt Go.RowKit
set_option linter.unusedVariables false
set_option linter.unusedSimpArgs false

set_option maxRecDepth 100000 in
set_option maxHeartbeats 4000000 in
theorem drawFormatOp (A : Option Addr) (len cap : Nat) (zs : List Int) (w : World) (hc : Code w A len cap zs) : Calls Tryz.prog 5 #[.slice A len cap] w fun e w' => ∃ c s k o d v : Int, e = .returned (.agg #[.int .i64 c, .int .i64 s, .int .i64 k, .int .i64 o, .int .i64 d, .int .i64 v]) ∧ Below w.heap.size w w' := by
  have hb0 : Below w.heap.size w (w.alloc (.cells #[.int .i64 0, .int .i64 0, .int .i64 0, .int .i64 0, .int .i64 0, .int .i64 0] 25)) := (Below.refl _ _).alloc (Nat.le_refl _) _
  have hR := BoxC.new w 25 #[.int .i64 0, .int .i64 0, .int .i64 0, .int .i64 0, .int .i64 0, .int .i64 0]
  have hc0 := hc.below hb0
  have C1 := Lib.hid (new_any A len cap zs _ hc0.row hc0.low)
  simp only [World.size_alloc] at C1
  go_enter Tryz.func5, Tryz.ntmps5
  go_wp2_with fail
  refine (C1.out).mono ?_
  rintro e w1 ⟨rfl, hcur, hb1⟩
  have hng : w.heap.size ≠ w.heap.size + 1 := by omega
  have hB1 := hb0.trans (hb1.mono (by omega))
  have hR1 := hR.later (by simpa using hb1)
  have j0 := anyOp_any (w.heap.size + 1) w1 hcur
  unfold opV at j0
  have C2 := Lib.hid j0
  clear C1 hc0 hc hb0 hb1 hR j0
  go_wp2_with fail
  refine (C2.out).mono ?_
  rintro e w2 ⟨c, s, k, o, d, v, rfl, hd2⟩
  have HR := Lib.hid (hR1.drewn hd2 hng)
  have HB := Lib.hid (drew_below hB1 (Nat.le_succ _) hd2)
  clear C2 hd2 hB1 hR1 hcur
  have r0 := HR.out.c 0 rfl
  have r1 := HR.out.c 1 rfl
  have r2 := HR.out.c 2 rfl
  have r3 := HR.out.c 3 rfl
  have r4 := HR.out.c 4 rfl
  have r5 := HR.out.c 5 rfl
  have f0 := HR.out.f 0
  have f1 := HR.out.f 1
  have f2 := HR.out.f 2
  have f3 := HR.out.f 3
  have f4 := HR.out.f 4
  have f5 := HR.out.f 5
  go_wp2_with fail
  refine bodyPost_ret (v := .agg #[.int .i64 c, .int .i64 s, .int .i64 k, .int .i64 o, .int .i64 d, .int .i64 v]) (by simp [results, Tryz.results5, go_sem, r0, r1, r2, r3, r4, r5]) rfl ?_
  exact ⟨c, s, k, o, d, v, rfl, (((((HB.out.setCell (p := ⟨w.heap.size, 0, none⟩) (Nat.le_refl _) _).setCell (p := ⟨w.heap.size, 1, none⟩) (Nat.le_refl _) _).setCell (p := ⟨w.heap.size, 2, none⟩) (Nat.le_refl _) _).setCell (p := ⟨w.heap.size, 3, none⟩) (Nat.le_refl _) _).setCell (p := ⟨w.heap.size, 4, none⟩) (Nat.le_refl _) _).setCell (p := ⟨w.heap.size, 5, none⟩) (Nat.le_refl _) _⟩
set_option maxRecDepth 100000 in
set_option maxHeartbeats 4000000 in
theorem drawFormatLog (A : Option Addr) (len cap : Nat) (zs : List Int) (w : World) (hc : Code w A len cap zs) : Calls Tryz.prog 8 #[.slice A len cap] w fun e w' => ∃ (v : Value) (L : List Ent), e = .returned v ∧ L.length ≤ 17 ∧ OwnE w.heap.size w' v L ∧ Below w.heap.size w w' := by
  have C1 := Lib.hid (new_any A len cap zs w hc.row hc.low)
  go_enter Tryz.func8, Tryz.ntmps8
  go_wp2_with fail
  refine (C1.out).mono ?_
  rintro e w1 ⟨rfl, hcur, hb1⟩
  have C2 := Lib.hid (any5_any w.heap.size w1 hcur)
  have hlt := hcur.lt
  clear C1
  go_wp2_with fail
  refine (C2.out).mono ?_
  rintro e w2 ⟨v, L, rfl, hL, ho, hd⟩
  obtain ⟨a, c, rfl⟩ := ho.shape
  have HO := Lib.hid (show OwnE w.heap.size w2 (.slice a L.length c) L from ho.mono (Nat.le_of_lt hlt))
  have HB := Lib.hid (drew_below hb1 (Nat.le_refl _) hd)
  clear C2 hd ho hb1 hcur
  go_wp2_with fail
  go_ret
  exact ⟨_, L, rfl, hL, HO.out, HB.out⟩
set_option maxRecDepth 100000 in
set_option maxHeartbeats 4000000 in
theorem drawFormatConfig (A : Option Addr) (len cap : Nat) (zs : List Int) (w : World) (hc : Code w A len cap zs) : Calls Tryz.prog 11 #[.slice A len cap] w fun e w' => ∃ (x y : Int) (u1 u2 : Value) (R1 R2 : List Int), e = .returned (.agg #[.int .i64 x, .int .i64 y, u1, u2]) ∧ R1.length ≤ 6 ∧ R2.length ≤ 6 ∧ OwnI w.heap.size w' u1 R1 ∧ OwnI w.heap.size w' u2 R2 ∧ Below w.heap.size w w' := by
  have hb0 : Below w.heap.size w (w.alloc (.cells #[.int .i64 0, .int .i64 0, .slice none 0 0, .slice none 0 0] 37)) := (Below.refl _ _).alloc (Nat.le_refl _) _
  have hR := BoxC.new w 37 #[.int .i64 0, .int .i64 0, .slice none 0 0, .slice none 0 0]
  have hc0 := hc.below hb0
  have C1 := Lib.hid (new_any A len cap zs _ hc0.row hc0.low)
  simp only [World.size_alloc] at C1
  go_enter Tryz.func11, Tryz.ntmps11
  go_wp2_with fail
  refine (C1.out).mono ?_
  rintro e w1 ⟨rfl, hcur, hb1⟩
  have hng : w.heap.size ≠ w.heap.size + 1 := by omega
  have hB1 := hb0.trans (hb1.mono (by omega))
  have hR1 := hR.later (by simpa using hb1)
  have C2 := Lib.hid (any8_any (w.heap.size + 1) w1 hcur)
  have hlt := hcur.lt
  clear C1 hc0 hc hb0 hb1 hR
  go_wp2_with fail
  refine (C2.out).mono ?_
  rintro e w2 ⟨x, y, u1, u2, R1, R2, rfl, hl1, hl2, ho1, ho2, hd2⟩
  obtain ⟨a1, c1, rfl⟩ := ho1.shape
  obtain ⟨a2, c2, rfl⟩ := ho2.shape
  have HR := Lib.hid (hR1.drewn hd2 hng)
  have HB := Lib.hid (drew_below hB1 (Nat.le_succ _) hd2)
  have HO1 := Lib.hid (show OwnI w.heap.size w2 (.slice a1 R1.length c1) R1 from ho1.mono (by omega))
  have HO2 := Lib.hid (show OwnI w.heap.size w2 (.slice a2 R2.length c2) R2 from ho2.mono (by omega))
  clear C2 hd2 ho1 ho2 hB1 hR1 hcur
  have r0 := HR.out.c 0 rfl
  have r1 := HR.out.c 1 rfl
  have r2 := HR.out.c 2 rfl
  have r3 := HR.out.c 3 rfl
  have f0 := HR.out.f 0
  have f1 := HR.out.f 1
  have f2 := HR.out.f 2
  have f3 := HR.out.f 3
  go_wp2_with fail
  refine bodyPost_ret (v := .agg #[.int .i64 x, .int .i64 y, .slice a1 R1.length c1, .slice a2 R2.length c2]) (by simp [results, Tryz.results11, go_sem, r0, r1, r2, r3]) rfl ?_
  refine ⟨x, y, _, _, R1, R2, rfl, hl1, hl2, ?_, ?_, ?_⟩
  · exact ownI_put (ownI_put (ownI_put (ownI_put HO1.out HR.out (by decide) 0 _) (HR.out.put 0 _) (by decide) 1 _) ((HR.out.put 0 _).put 1 _) (by decide) 2 _) (((HR.out.put 0 _).put 1 _).put 2 _) (by decide) 3 _
  · exact ownI_put (ownI_put (ownI_put (ownI_put HO2.out HR.out (by decide) 0 _) (HR.out.put 0 _) (by decide) 1 _) ((HR.out.put 0 _).put 1 _) (by decide) 2 _) (((HR.out.put 0 _).put 1 _).put 2 _) (by decide) 3 _
  · exact (((HB.out.setCell (p := ⟨w.heap.size, 0, none⟩) (Nat.le_refl _) _).setCell (p := ⟨w.heap.size, 1, none⟩) (Nat.le_refl _) _).setCell (p := ⟨w.heap.size, 2, none⟩) (Nat.le_refl _) _).setCell (p := ⟨w.heap.size, 3, none⟩) (Nat.le_refl _) _
set_option maxRecDepth 100000 in
set_option maxHeartbeats 4000000 in
theorem drawFormatMachine (A : Option Addr) (len cap : Nat) (zs : List Int) (w : World) (hc : Code w A len cap zs) : Calls Tryz.prog 14 #[.slice A len cap] w fun e w' => ∃ (u1 u2 : Value) (L : List Int) (M : List Sess), e = .returned (.agg #[u1, u2]) ∧ L.length ≤ 3 ∧ M.length ≤ 6 ∧ ObjV w.heap.size w' u1 L ∧ OwnS w.heap.size w' u2 M ∧ Below w.heap.size w w' := by
  have hb0 : Below w.heap.size w (w.alloc (.cells #[.slice none 0 0, .slice none 0 0] 44)) := (Below.refl _ _).alloc (Nat.le_refl _) _
  have hR := BoxC.new w 44 #[.slice none 0 0, .slice none 0 0]
  have hc0 := hc.below hb0
  have C1 := Lib.hid (new_any A len cap zs _ hc0.row hc0.low)
  simp only [World.size_alloc] at C1
  go_enter Tryz.func14, Tryz.ntmps14
  go_wp2_with fail
  refine (C1.out).mono ?_
  rintro e w1 ⟨rfl, hcur, hb1⟩
  have hng : w.heap.size ≠ w.heap.size + 1 := by omega
  have hB1 := hb0.trans (hb1.mono (by omega))
  have hR1 := hR.later (by simpa using hb1)
  have C2 := Lib.hid (any4_any (w.heap.size + 1) w1 hcur)
  have hlt := hcur.lt
  clear C1 hc0 hc hb0 hb1 hR
  go_wp2_with fail
  refine (C2.out).mono ?_
  rintro e w2 ⟨u1, u2, L, M, rfl, hl1, hl2, ho1, ho2, hd2⟩
  obtain ⟨a1, c1, rfl⟩ := ho1.shape
  obtain ⟨a2, c2, rfl⟩ := ho2.shape
  have HR := Lib.hid (hR1.drewn hd2 hng)
  have HB := Lib.hid (drew_below hB1 (Nat.le_succ _) hd2)
  have HO1 := Lib.hid (show ObjV w.heap.size w2 (.slice a1 L.length c1) L from ho1.mono (by omega))
  have HO2 := Lib.hid (show OwnS w.heap.size w2 (.slice a2 M.length c2) M from ho2.mono (by omega))
  clear C2 hd2 ho1 ho2 hB1 hR1 hcur
  have r0 := HR.out.c 0 rfl
  have r1 := HR.out.c 1 rfl
  have f0 := HR.out.f 0
  have f1 := HR.out.f 1
  go_wp2_with fail
  refine bodyPost_ret (v := .agg #[.slice a1 L.length c1, .slice a2 M.length c2]) (by simp [results, Tryz.results14, go_sem, r0, r1]) rfl ?_
  refine ⟨_, _, L, M, rfl, hl1, hl2, ?_, ?_, ?_⟩
  · exact (HO1.out.put HR.out (by decide) 0 _).put (HR.out.put 0 _) (by decide) 1 _
  · exact row_put (row_put HO2.out HR.out (by decide) 0 _) (HR.out.put 0 _) (by decide) 1 _
  · exact (HB.out.setCell (p := ⟨w.heap.size, 0, none⟩) (Nat.le_refl _) _).setCell (p := ⟨w.heap.size, 1, none⟩) (Nat.le_refl _) _
end Go.Proofs.YtgjebjoaemeeoaaGreatDoor.kit
namespace Go.Proofs.YtgjebjoaemeeoaaGreatDoor.kit
open Go.ChangeShapes Go.WideShapes Go.ChangeAt Go.RowKit
set_option linter.unusedVariables false
set_option linter.unusedSimpArgs false

theorem vals_snoc (s : ByteArray) (k : Nat) (h : k < s.size) : vals (s.data.toList.take (k + 1)) = vals (s.data.toList.take k) ++ [(s[k].toNat : Int) - 48] := by
  have hsz : s.data.toList.length = s.size := by rw [Array.length_toList]; rfl
  rw [List.take_succ_eq_append_getElem (by rw [hsz]; exact h)]
  unfold vals
  rw [List.map_append]; rfl
end Go.Proofs.YtgjebjoaemeeoaaGreatDoor.kit
namespace Go.Proofs.YtgjebjoaemeeoaaGreatDoor.kit
open Go.ChangeShapes Go.WideShapes Go.ChangeAt Go.RowKit
set_option linter.unusedVariables false
set_option linter.unusedSimpArgs false

theorem rowIs_of_heap {w w' : World} {b : Nat} {t : TypeId} {n : Nat} {f : Nat → Value} (h : w.rowIs b t n f) (he : w'.heap[b]? = w.heap[b]?) : w'.rowIs b t n f := by
  unfold World.rowIs at *; rw [he]; exact h
theorem bits_nil {m : Nat} (hm : m < 32) : (bitsOf m = []) ↔ m = 0 := by
  have h : ∀ m : Nat, m < 32 → ((bitsOf m = []) ↔ m = 0) := by decide +kernel
  exact h m hm
set_option maxRecDepth 100000 in
theorem implParseServers (s : ByteArray) (w : World) (hs : s.size ≤ 1048576) :
    Calls Tryz.prog 44 #[.string s] w fun e w' => ∃ v, e = .returned (.tuple #[v, .bool (parseSok s.data.toList)]) ∧ OwnI w.heap.size w' v (parseS s.data.toList) ∧ Below w.heap.size w w' := by
  by_cases hn : s.data.toList = [110, 111, 110, 101]
  · obtain rfl : s = ⟨#[110, 111, 110, 101]⟩ := by
      cases s with | mk d => simp at hn; rw [show d = #[110, 111, 110, 101] from Array.toList_inj.1 hn]
    go_enter Tryz.func44, Tryz.ntmps44
    go_wp2_with fail
    go_ret2
    exact ⟨_, by rw [parse_none.2]; rfl, by rw [parse_none.1]; exact World.ownsRow_nil _ _ _ _, Below.refl _ _⟩
  · have gN : (s.toList == [110, 111, 110, 101]) = false := by rw [beq_eq_false_iff_ne, ByteArray.toList_eq]; exact hn
    have hsz : s.data.toList.length = s.size := by rw [Array.length_toList]; rfl
    have HZ := Lib.hid hsz
    have HN := Lib.hid hn
    clear hn hsz
    go_enter Tryz.func44, Tryz.ntmps44
    go_wp2_with fail
    clear gN
    go_loopw [6] (fun r wr => ∃ k m : Nat, k ≤ s.size ∧ wr.heap[w.heap.size + 1]? = some (.stringIter s k) ∧ m < 32 ∧ Hid (vals (s.data.toList.take k) = bitsOf m) ∧ wr.rowIs w.heap.size 81 1 (fun _ => .int .u8 m) ∧ Below w.heap.size w wr) (fun _ wr => s.size - wr.iterPos (w.heap.size + 1))
    case atStart =>
      refine ⟨0, 0, Nat.zero_le _, ?_, by omega, Lib.hid rfl, ?_, ((Below.refl w.heap.size w).alloc (Nat.le_refl _) _).alloc (by simp) _⟩
      · have h := World.iter_heap (w.alloc (.cells #[.int .u8 0] 81)) s 0
        simpa using h
      · exact rowIs_of_heap (one_row w _ _) (Below.heap_alloc (w.alloc (.cells #[.int .u8 0] 81)) (.stringIter s 0) w.heap.size (by simp))
    case round =>
      obtain ⟨k, m, hk, hit, hm, HE, hrow, hb⟩ := hrel
      have hpos : Hid (wr.iterPos (w.heap.size + 1) = k) := Lib.hid (iterPos_of hit)
      have HIT := Lib.hid hit
      clear hit
      by_cases hlt : k < s.size
      · have HVG := Lib.hid (vals_get s.data.toList k (by rw [HZ.out]; exact hlt))
        have HVS := Lib.hid (vals_snoc s k hlt)
        have hlast := last_take (vals s.data.toList) k (by rw [vals_length, HZ.out]; omega)
        rw [← vals_take, HE.out] at hlast
        have HLAST := Lib.hid hlast
        clear hlast
        by_cases hlow : s[k].toNat < 128
        · have hnx := fun ty => Lib.run_next_ascii_at (P := Tryz.prog) wr (w.heap.size + 1) s k ty HIT.out hlt hlow
          have HITA := Lib.hid (Lib.iterAt_heap wr (w.heap.size + 1) s k (k + 1) HIT.out)
          have hrowA := rowIs_of_heap hrow (Lib.iterAt_other wr (w.heap.size + 1) w.heap.size s (k + 1) (by omega))
          have HBA := Lib.hid (Lib.below_iterAt hb (show w.heap.size ≤ w.heap.size + 1 by omega) s (k + 1))
          have hcell := hrowA.cell (i := 0) (by omega)
          have hfr := hrowA.frozen 0
          have HR := Lib.hid hrowA
          have hx1 : IntKind.i32.wrap ((s[k].toNat : Int) - 48) = (s[k].toNat : Int) - 48 := IntWalk.i32_in _ (by omega)
          have hx2 : IntKind.i64.wrap ((s[k].toNat : Int) - 48) = (s[k].toNat : Int) - 48 := IntWalk.i64_in _ (by omega)
          clear hrow hb hrowA
          by_cases hin : 0 ≤ (s[k].toNat : Int) - 48 ∧ (s[k].toNat : Int) - 48 < 5
          · obtain ⟨id, hid⟩ := Int.eq_ofNat_of_zero_le hin.1
            have h5 : id < 5 := by omega
            by_cases h0 : m / 2 ^ id = 0
            · have C1 := Lib.hid (add_yes ⟨w.heap.size, 0, none⟩ id m (wr.iterAt (w.heap.size + 1) s (k + 1)) h5 hcell hfr h0 hm)
              obtain ⟨b1, b2, b3⟩ := bits_add hm h5 h0
              have HE2 := Lib.hid (show vals (s.data.toList.take (k + 1)) = bitsOf (m ||| 2 ^ id) by rw [HVS.out, HE.out, b1, hid])
              rw [hid] at hx1 hx2
              have HID := Lib.hid hid
              clear b1 b3 h0 hid hin hcell hfr
              go_wp2_with (first | (rw [HID.out]) | (go_at_call 82; refine (C1.out).mono ?_; rintro e w1 ⟨rfl, rfl⟩))
              have hit2 : (((wr.iterAt (w.heap.size + 1) s (k + 1)).setCell ⟨w.heap.size, 0, none⟩ (.int .u8 ((m ||| 2 ^ id : Nat) : Int))).drew).heap[w.heap.size + 1]? = some (.stringIter s (k + 1)) := (Below.heap_setCell _ _ _ _ (by simp)).trans HITA.out
              have HIT2 := Lib.hid hit2
              clear hit2
              go_roundw
              case rel => exact ⟨k + 1, m ||| 2 ^ id, by omega, HIT2.out, b2, HE2, ((HR.out.set 0 _).drew).congr one_eq, (HBA.out.setCell (Nat.le_refl _) _).drew⟩
              case measure => rw [hpos.out, iterPos_of HIT2.out]; omega
            · have C1 := Lib.hid (add_not ⟨w.heap.size, 0, none⟩ id m (wr.iterAt (w.heap.size + 1) s (k + 1)) h5 hcell (Nat.pos_of_ne_zero h0))
              have HP := Lib.hid (parse_bad HN.out (okB_bad (i := k) (by rw [HZ.out]; exact hlt) (decide_eq_false (fun h => by
                have b := bits_not hm h5 (Nat.pos_of_ne_zero h0)
                have hv : (vals s.data.toList).getD k 0 = (s[k].toNat : Int) - 48 := HVG.out
                rw [HLAST.out] at b
                split at b
                · omega
                · have := h.2.2 (by omega); omega))))
              rw [hid] at hx1 hx2
              have HID := Lib.hid hid
              clear h0 hid hin hcell hfr
              go_wp2_with (first | (rw [HID.out]) | (go_at_call 82; refine (C1.out).mono ?_; rintro e w1 ⟨rfl, rfl⟩))
              go_ret2
              exact ⟨_, by rw [HP.out.2]; rfl, by rw [HP.out.1]; exact World.ownsRow_nil _ _ _ _, HBA.out⟩
          · have C1 := Lib.hid (add_out ⟨w.heap.size, 0, none⟩ ((s[k].toNat : Int) - 48) m (wr.iterAt (w.heap.size + 1) s (k + 1)) (by omega))
            have HP := Lib.hid (parse_bad HN.out (okB_bad (i := k) (by rw [HZ.out]; exact hlt) (decide_eq_false (fun h => by
              have hv : (vals s.data.toList).getD k 0 = (s[k].toNat : Int) - 48 := HVG.out
              omega))))
            clear hin hcell hfr
            go_wp2_with (go_at_call 82; refine (C1.out).mono ?_; rintro e w1 ⟨rfl, rfl⟩)
            go_ret2
            exact ⟨_, by rw [HP.out.2]; rfl, by rw [HP.out.1]; exact World.ownsRow_nil _ _ _ _, HBA.out⟩
        · have hnx := fun ty => Lib.run_next_any_at (P := Tryz.prog) wr (w.heap.size + 1) s k ty HIT.out hlt
          have hd1 := (decode_high s k hlt (by omega)).1
          have hd2 := decode_le s k
          have HBA := fun d => Lib.hid (Lib.below_iterAt hb (show w.heap.size ≤ w.heap.size + 1 by omega) s (k + d))
          have HP := Lib.hid (parse_bad HN.out (okB_bad (i := k) (by rw [HZ.out]; exact hlt) (decide_eq_false (fun h => by
            have hv : (vals s.data.toList).getD k 0 = (s[k].toNat : Int) - 48 := HVG.out
            omega))))
          obtain ⟨d, hd⟩ : ∃ d, d = Utf8.decode s k := ⟨_, rfl⟩
          simp only [← hd] at hnx hd1 hd2
          clear hd
          have C1 := Lib.hid (add_out ⟨w.heap.size, 0, none⟩ ((d.1 : Int) - 48) m (wr.iterAt (w.heap.size + 1) s (k + d.2)) (by omega))
          have hx1 : IntKind.i32.wrap ((d.1 : Int) - 48) = (d.1 : Int) - 48 := IntWalk.i32_in _ (by omega)
          have hx2 : IntKind.i64.wrap ((d.1 : Int) - 48) = (d.1 : Int) - 48 := IntWalk.i64_in _ (by omega)
          clear hrow hb
          go_wp2_with (go_at_call 82; refine (C1.out).mono ?_; rintro e w1 ⟨rfl, rfl⟩)
          go_ret2
          exact ⟨_, by rw [HP.out.2]; rfl, by rw [HP.out.1]; exact World.ownsRow_nil _ _ _ _, (HBA _).out⟩
      · obtain rfl : k = s.size := by omega
        have hnx := fun ty => Lib.run_next_end_at (P := Tryz.prog) wr (w.heap.size + 1) s s.size ty HIT.out hlt
        have hfull : s.data.toList.take s.size = s.data.toList := List.take_of_length_le (by rw [HZ.out]; omega)
        rw [hfull] at HE
        have hcell := hrow.cell (i := 0) (by omega)
        by_cases h0 : m = 0
        · subst h0
          have HP := Lib.hid (parse_bad HN.out (show okB s.data.toList = false by
            have h1 : vals s.data.toList = [] := HE.out.trans ((bits_nil (by omega)).2 rfl)
            have h2 : s.data.toList = [] := by have := congrArg List.length h1; rw [vals_length] at this; exact List.eq_nil_of_length_eq_zero this
            rw [h2]; rfl))
          have HB := Lib.hid hb
          clear hrow hb hfull
          go_wp2_with fail
          go_ret2
          exact ⟨_, by rw [HP.out.2]; rfl, by rw [HP.out.1]; exact World.ownsRow_nil _ _ _ _, HB.out⟩
        · have HP := Lib.hid (parse_good HN.out (show okB s.data.toList = true by
            have h2 : s.data.toList ≠ [] := fun e => h0 ((bits_nil hm).1 (by rw [← HE.out, e]; rfl))
            unfold okB; rw [HE.out, bits_are hm, decide_eq_true h2]; rfl))
          have g0 : ((m : Int) == 0) = false := by rw [beq_eq_false_iff_ne]; omega
          have HB := Lib.hid hb
          have hz := hb.size
          have C1 := Lib.hid (fun W => implNumbers m W hm)
          clear hrow hb hfull
          go_wp2_with (go_at_call 81; refine (C1.out _).mono ?_; rintro e w1 ⟨v, rfl, ho, hb1⟩)
          go_ret2
          exact ⟨_, by rw [HP.out.2]; rfl, by rw [HP.out.1, HE.out]; exact ho.mono hz, HB.out.trans (hb1.mono hz)⟩
end Go.Proofs.YtgjebjoaemeeoaaGreatDoor.kit
namespace Go.Proofs.YtgjebjoaemeeoaaGreatDoor.kit
open Go.ChangeShapes Go.WideShapes Go.ChangeAt Go.RowKit
set_option linter.unusedVariables false
set_option linter.unusedSimpArgs false

theorem fourI {α : Type} {L : List α} (h : L.length = 4) : ∃ a b c d, L = [a, b, c, d] := by
  match L, h with
  | [a, b, c, d], _ => exact ⟨a, b, c, d, rfl⟩
theorem splitC (s : ByteArray) (w : World) (hs : s.size ≤ 1048576) (hM : Mx w) :
    Calls Tryz.prog 33 #[.string s, .string { data := #[32] }, .int .i64 4] w fun e w' => ∃ g cap, e = .returned (.slice (some ⟨g, 0, none⟩) (wordsC s.data.toList).length cap) ∧ (wordsC s.data.toList).length ≤ cap ∧ cap ≤ 4 ∧ w.heap.size ≤ g ∧
      PartsAt w' g (wordsC s.data.toList) ∧ Below w.heap.size w w' := splitWordsK 32 3 (by omega) s w hs hM
set_option maxRecDepth 100000 in
set_option maxHeartbeats 16000000 in
theorem implParseConfig (s : ByteArray) (w : World) (hs : s.size ≤ 1048576) (hT : Tab w) (hM : Mx w) :
    Calls Tryz.prog 13 #[.string s] w fun e w' => ∃ u1 u2, e = .returned (.tuple #[.agg #[.int .i64 (parCx s.data.toList), .int .i64 (parCy s.data.toList), u1, u2], .bool (parCok s.data.toList)]) ∧ OwnI w.heap.size w' u1 (parC1 s.data.toList) ∧ OwnI w.heap.size w' u2 (parC2 s.data.toList) ∧ Below w.heap.size w w' ∧ Apart u1 u2 := by
  have hl : s.data.toList.length = s.size := by rw [Array.length_toList]; rfl
  have hpl : ∀ j, ((wordsC s.data.toList).getD j []).length ≤ s.size := fun j => by
    rcases Nat.lt_or_ge j (wordsC s.data.toList).length with h | h
    · have hm : (wordsC s.data.toList).getD j [] ∈ wordsC s.data.toList := by simp [List.getD, h]
      have := split_mem 32 _ _ _ hm
      omega
    · simp [List.getD, h]
  obtain ⟨W, hW⟩ : ∃ W, W = w.alloc (.cells #[.int .i64 0, .int .i64 0, .slice none 0 0, .slice none 0 0] 37) := ⟨_, rfl⟩
  have HB := Lib.hid (show Below w.heap.size w W by rw [hW]; exact (Below.refl _ _).alloc (Nat.le_refl _) _)
  have HR := Lib.hid (show BoxC W w.heap.size 37 #[.int .i64 0, .int .i64 0, .slice none 0 0, .slice none 0 0] by rw [hW]; exact BoxC.new _ _ _)
  have hWs : W.heap.size = w.heap.size + 1 := by rw [hW]; simp
  have HW := Lib.hid hW
  have HT := Lib.hid (fun W' (h : Below w.heap.size w W') => hT.below h)
  have JC := Lib.hid (splitC s W hs (hM.below HB.out))
  have HYES := Lib.hid (fun h => conf_yes (s := s.data.toList) h)
  have HNO := Lib.hid (fun h => parC_no (conf_no (s := s.data.toList) h))
  have HY' := Lib.hid (fun h => parC_yes (s := s.data.toList) h)
  clear hl hW hT hM
  go_enter Tryz.func13, Tryz.ntmps13
  go_wp2_with fail
  rw [← HW.out]
  refine JC.out.mono ?_
  rintro e w1 ⟨g, cap, rfl, hn, hc4, hgw, hp, hb⟩
  clear JC HW
  have HP := Lib.hid hp
  replace HR := Lib.hid (HR.out.later hb)
  have hg0 : w.heap.size ≤ w1.heap.size := by have := hb.size; omega
  replace HB := Lib.hid (HB.out.trans (hb.mono HB.out.size))
  clear hp hb
  generalize wordsC s.data.toList = ps at *
  by_cases h4 : ps.length = 4
  · obtain ⟨p0, p1, p2, p3, rfl⟩ := fourI h4
    have hq0 := hpl 0
    have hq1 := hpl 1
    have hq2 := hpl 2
    have hq3 := hpl 3
    simp only [List.getD_cons_zero, List.getD_cons_succ] at hq0 hq1 hq2 hq3
    have hp0' : p0.length ≤ 1048576 := Nat.le_trans hq0 hs
    have hp1 : p1.length ≤ 1048576 := Nat.le_trans hq1 hs
    have hp2 : p2.length ≤ 1048576 := Nat.le_trans hq2 hs
    have hp3 : p3.length ≤ 1048576 := Nat.le_trans hq3 hs
    have HL := Lib.hid (show [p0, p1, p2, p3].length = 4 from rfl)
    rw [HL.out] at hn
    have hc2 : (2 : Int) ≤ (cap : Int) := by omega
    have hc2' : 2 ≤ cap := by omega
    rw [HL.out]
    have HG := Lib.hid (show goodC [p0, p1, p2, p3] ↔ (allPar [p0, p1] = true ∧ parseSok p2 = true ∧ parseSok p3 = true ∧ CfgOk (parN p0) (parN p1) (parseS p2) (parseS p3)) from ⟨fun h => h.2, fun h => ⟨rfl, h⟩⟩)
    replace HYES := Lib.hid (show CfgOk (parN p0) (parN p1) (parseS p2) (parseS p3) → allPar [p0, p1] = true → parseSok p2 = true → parseSok p3 = true → okPC s.data.toList ∧ cx s.data.toList = parN p0 ∧ cy s.data.toList = parN p1 ∧ c1 s.data.toList = parseS p2 ∧ c2 s.data.toList = parseS p3 from fun a b c d => HYES.out (HG.out.2 ⟨b, c, d, a⟩))
    have j2 := fun W (h : Below w.heap.size w W) => implParseServers ⟨p2.toArray⟩ W (by rw [size_mk]; exact hp2)
    have j3 := fun W (h : Below w.heap.size w W) => implParseServers ⟨p3.toArray⟩ W (by rw [size_mk]; exact hp3)
    simp only at j2 j3
    have l1 : (parseS p2).length ≤ 1048576 := by have := parseS_len5 p2; omega
    have l2 : (parseS p3).length ≤ 1048576 := by have := parseS_len5 p3; omega
    have hat : AtP w1 (some ⟨g, 0, none⟩) [p0, p1] := fun j hj => by
      refine ⟨_, rfl, HP.out.lt, ?_⟩
      have hadd : (⟨g, 0, none⟩ : Addr).add j = ⟨g, j, none⟩ := by unfold Addr.add; split <;> simp_all
      rw [hadd]
      match j, hj with
      | 0, _ => exact HP.out.2 0 (by rw [HL.out]; decide)
      | 1, _ => exact HP.out.2 1 (by rw [HL.out]; decide)
    have JP := Lib.hid (parseInts (some ⟨g, 0, none⟩) 2 cap [p0, p1] w1 rfl (by omega) (fun j => by
      match j with
      | 0 => exact hp0'
      | 1 => exact hp1
      | n + 2 => simp) hat (HT.out _ HB.out))
    have hnum : allPar [p0, p1] = true → numsOf [p0, p1] = [parN p0, parN p1] := fun h => by unfold numsOf; rw [if_pos h]; rfl
    have HNUM := Lib.hid hnum
    generalize parN p0 = X at *
    generalize parN p1 = Y at *
    generalize parseS p2 = R1 at *
    generalize parseS p3 = R2 at *
    have J2 := Lib.hid j2
    have J3 := Lib.hid j3
    clear h4 hq0 hq1 hq2 hq3 hpl j2 j3 hat hnum
    go_wp2_with fail
    refine JP.out.mono ?_
    rintro e wa ⟨vn, rfl, hon, hbn⟩
    have HON := Lib.hid hon
    replace HP := Lib.hid (HP.out.later hbn)
    replace HR := Lib.hid (HR.out.later hbn)
    replace HB := Lib.hid (HB.out.trans (hbn.mono hg0))
    have hga := Nat.le_trans hg0 hbn.size
    obtain ⟨na, nc, rfl⟩ := hon.shape
    have c2' := HP.out.2 2 (by rw [HL.out]; decide)
    simp only [List.getD_cons_zero, List.getD_cons_succ] at c2'
    clear hon hbn JP
    go_wp2_with fail
    refine (J2.out _ HB.out).mono ?_
    rintro e w2 ⟨v2, rfl, ho2, hb2⟩
    obtain ⟨ra, rc, rfl⟩ := ho2.shape
    have HO2 := Lib.hid ho2
    replace HON := Lib.hid (HON.out.later hb2)
    replace HP := Lib.hid (HP.out.later hb2)
    replace HR := Lib.hid (HR.out.later hb2)
    replace HB := Lib.hid (HB.out.trans (hb2.mono hga))
    have hg2 := Nat.le_trans hga hb2.size
    clear ho2 hb2 J2 c2'
    have c3' := HP.out.2 3 (by rw [HL.out]; decide)
    simp only [List.getD_cons_zero, List.getD_cons_succ] at c3'
    go_wp2_with fail
    refine (J3.out _ HB.out).mono ?_
    rintro e w3 ⟨v3, rfl, ho3, hb3⟩
    have HAP := Lib.hid (apart_of HO2.out ho3 (Nat.le_refl _))
    obtain ⟨qa, qc, rfl⟩ := ho3.shape
    have HO3 := Lib.hid (ho3.mono hg2)
    replace HO2 := Lib.hid ((HO2.out.later hb3).mono hga)
    replace HON := Lib.hid (HON.out.later hb3)
    replace HR := Lib.hid (HR.out.later hb3)
    replace HB := Lib.hid (HB.out.trans (hb3.mono hg2))
    have hg3 := Nat.le_trans hg2 hb3.size
    clear ho3 hb3 J3 c3' HP
    cases ea : allPar [p0, p1] with
    | false =>
      have eb : True := trivial
      have ec : True := trivial
      have HF := Lib.hid (HNO.out (fun h => by have h' := HG.out.1 h; simp [ea, eb, ec] at h'))
      clear ea eb ec
      have r0 := HR.out.c 0 rfl
      have r1 := HR.out.c 1 rfl
      have r2 := HR.out.c 2 rfl
      have r3 := HR.out.c 3 rfl
      have f0 := HR.out.f 0
      have f1 := HR.out.f 1
      have f2 := HR.out.f 2
      have f3 := HR.out.f 3
      go_wp2_with fail
      refine bodyPost_ret (v := .tuple #[.agg #[.int .i64 0, .int .i64 0, .slice none 0 0, .slice none 0 0], .bool false]) (by simp [results, Tryz.results13, go_sem, r0, r1, r2, r3]) rfl ?_
      refine ⟨_, _, by rw [HF.out.1, HF.out.2.1, HF.out.2.2.1], by rw [HF.out.2.2.2.1]; exact World.ownsRow_nil _ _ _ _, by rw [HF.out.2.2.2.2]; exact World.ownsRow_nil _ _ _ _, ?_, apart_nil _ _ _⟩
      exact
        (((HB.out.setCell (p := ⟨w.heap.size, 0, none⟩) (Nat.le_refl _) _).setCell (p := ⟨w.heap.size, 1, none⟩) (Nat.le_refl _) _).setCell (p := ⟨w.heap.size, 2, none⟩) (Nat.le_refl _) _).setCell (p := ⟨w.heap.size, 3, none⟩) (Nat.le_refl _) _
    | true =>
      cases eb : parseSok p2 with
      | false =>
        have ec : True := trivial
        have HF := Lib.hid (HNO.out (fun h => by have h' := HG.out.1 h; simp [ea, eb, ec] at h'))
        clear ea eb ec
        have r0 := HR.out.c 0 rfl
        have r1 := HR.out.c 1 rfl
        have r2 := HR.out.c 2 rfl
        have r3 := HR.out.c 3 rfl
        have f0 := HR.out.f 0
        have f1 := HR.out.f 1
        have f2 := HR.out.f 2
        have f3 := HR.out.f 3
        go_wp2_with fail
        refine bodyPost_ret (v := .tuple #[.agg #[.int .i64 0, .int .i64 0, .slice none 0 0, .slice none 0 0], .bool false]) (by simp [results, Tryz.results13, go_sem, r0, r1, r2, r3]) rfl ?_
        refine ⟨_, _, by rw [HF.out.1, HF.out.2.1, HF.out.2.2.1], by rw [HF.out.2.2.2.1]; exact World.ownsRow_nil _ _ _ _, by rw [HF.out.2.2.2.2]; exact World.ownsRow_nil _ _ _ _, ?_, apart_nil _ _ _⟩
        exact
          (((HB.out.setCell (p := ⟨w.heap.size, 0, none⟩) (Nat.le_refl _) _).setCell (p := ⟨w.heap.size, 1, none⟩) (Nat.le_refl _) _).setCell (p := ⟨w.heap.size, 2, none⟩) (Nat.le_refl _) _).setCell (p := ⟨w.heap.size, 3, none⟩) (Nat.le_refl _) _
      | true =>
        cases ec : parseSok p3 with
        | false =>
          have HF := Lib.hid (HNO.out (fun h => by have h' := HG.out.1 h; simp [ea, eb, ec] at h'))
          clear ea eb ec
          have r0 := HR.out.c 0 rfl
          have r1 := HR.out.c 1 rfl
          have r2 := HR.out.c 2 rfl
          have r3 := HR.out.c 3 rfl
          have f0 := HR.out.f 0
          have f1 := HR.out.f 1
          have f2 := HR.out.f 2
          have f3 := HR.out.f 3
          go_wp2_with fail
          refine bodyPost_ret (v := .tuple #[.agg #[.int .i64 0, .int .i64 0, .slice none 0 0, .slice none 0 0], .bool false]) (by simp [results, Tryz.results13, go_sem, r0, r1, r2, r3]) rfl ?_
          refine ⟨_, _, by rw [HF.out.1, HF.out.2.1, HF.out.2.2.1], by rw [HF.out.2.2.2.1]; exact World.ownsRow_nil _ _ _ _, by rw [HF.out.2.2.2.2]; exact World.ownsRow_nil _ _ _ _, ?_, apart_nil _ _ _⟩
          exact
            (((HB.out.setCell (p := ⟨w.heap.size, 0, none⟩) (Nat.le_refl _) _).setCell (p := ⟨w.heap.size, 1, none⟩) (Nat.le_refl _) _).setCell (p := ⟨w.heap.size, 2, none⟩) (Nat.le_refl _) _).setCell (p := ⟨w.heap.size, 3, none⟩) (Nat.le_refl _) _
        | true =>
          replace HON := Lib.hid (by have h := HON.out; rw [HNUM.out ea] at h; exact h)
          obtain ⟨ng, nc', hsh, hnc, hncm, hng, hn0, hn1⟩ := HON.out.two
          have hv : numsOf [p0, p1] = [X, Y] := HNUM.out ea
          injection hsh with hs1 hs2 hs3
          subst hs1
          rw [hv]
          rw [show [X, Y].length = 2 from rfl]
          have HLN := Lib.hid hncm
          have HGG := Lib.hid (show CfgOk X Y R1 R2 ∨ ¬ CfgOk X Y R1 R2 from Decidable.em _)
          have HBAD := Lib.hid (show ¬ CfgOk X Y R1 R2 → parCok s.data.toList = false ∧ parCx s.data.toList = 0 ∧ parCy s.data.toList = 0 ∧ parC1 s.data.toList = [] ∧ parC2 s.data.toList = [] from fun h => HNO.out (fun h' => h (HG.out.1 h').2.2.2))
          have HGOOD := Lib.hid (show CfgOk X Y R1 R2 → parCok s.data.toList = true ∧ parCx s.data.toList = X ∧ parCy s.data.toList = Y ∧ parC1 s.data.toList = R1 ∧ parC2 s.data.toList = R2 from fun h => by
            obtain ⟨h1, h2, h3, h4, h5⟩ := HYES.out h ea eb ec
            obtain ⟨k1, k2, k3, k4, k5⟩ := HY'.out h1
            exact ⟨k1, k2.trans h2, k3.trans h3, k4.trans h4, k5.trans h5⟩)
          clear hv hncm hs2 hs3 ea eb ec HYES HNO HY' HG HNUM HGG
          go_wp2_with fail
          obtain ⟨w4, rfl⟩ : ∃ q, q = w3 := ⟨_, rfl⟩
          have hR4 := HR.out.lt
          go_upto_region 9 with (fail)
          go_cut [11] (fun b wx => ∃ p, b = .pointer (some ⟨p, 0, none⟩) ∧ BoxC wx p 37 #[.int .i64 X, .int .i64 Y, .slice ra R1.length rc, .slice qa R2.length qc] ∧ w4.heap.size ≤ p ∧ Below w4.heap.size w4 wx)
          case first =>
            refine region_inv (m := 10) [49, 50, 51, 52, 53, 54, 55, 56, 57, 11] [] (Fs [isV (.slice (some ⟨ng, 0, none⟩) 2 nc), isV (.pointer (some ⟨ng, 0, none⟩)), isV (.int .i64 X), isV (.slice (some ⟨ng, 0, none⟩) 2 nc), isV (.pointer (some ⟨ng, 1, none⟩)), isV (.int .i64 Y), isV (.slice ra R1.length rc), isV (.slice qa R2.length qc), isV (.agg #[.int .i64 X, .int .i64 Y, .slice ra R1.length rc, .slice qa R2.length qc]), isC (w4.heap.size) 37 #[.int .i64 0, .int .i64 0, .slice none 0 0, .slice none 0 0]]) (by kernel_rfl) (by decide) rfl (by decide) (by kernel_rfl) (by kernel_rfl) (by kernel_rfl) (fun _ _ _ _ _ h => h) (Fs_mono ⟨isV_mono _, isV_mono _, isV_mono _, isV_mono _, isV_mono _, isV_mono _, isV_mono _, isV_mono _, isV_mono _, isC_mono _ _ _, trivial⟩) ?step ?float ?tail
            case float =>
              intro f hf
              cases hf
            case step =>
              intro i hi vs wq hBq hd
              rcases (show i = 0 ∨ i = 1 ∨ i = 2 ∨ i = 3 ∨ i = 4 ∨ i = 5 ∨ i = 6 ∨ i = 7 ∨ i = 8 ∨ i = 9 from by omega) with rfl | rfl | rfl | rfl | rfl | rfl | rfl | rfl | rfl | rfl
              · refine wpOp_step (o := _) rfl (fun K' hK => ?_)
                have HK := Lib.hid hK
                clear hK
                simp only [lay, Act.put, List.setIfInBounds_toArray, List.set_cons_zero, List.set_cons_succ, List.getD_cons_zero, List.getD_cons_succ, id_eq]
                go_simp
                refine HK.out _ _ ⟨_, ?_, Below.refl _ _, rfl⟩
                simp only [lay, Act.put, List.setIfInBounds_toArray, List.set_cons_zero, List.set_cons_succ, List.getD_cons_zero, List.getD_cons_succ, id_eq]
              · have e0' : vs 0 = .slice (some ⟨ng, 0, none⟩) 2 nc := hd 0 (List.contains_iff_mem.1 (by kernel_rfl))
                refine wpOp_step (o := _) rfl (fun K' hK => ?_)
                have HK := Lib.hid hK
                clear hK
                simp only [lay, Act.put, List.setIfInBounds_toArray, List.set_cons_zero, List.set_cons_succ, List.getD_cons_zero, List.getD_cons_succ, id_eq]
                rw [e0']
                go_simp
                refine HK.out _ _ ⟨_, ?_, Below.refl _ _, rfl⟩
                simp only [lay, Act.put, List.setIfInBounds_toArray, List.set_cons_zero, List.set_cons_succ, List.getD_cons_zero, List.getD_cons_succ, id_eq]
                rw [e0']
              · have e1' : vs 1 = .pointer (some ⟨ng, 0, none⟩) := hd 1 (List.contains_iff_mem.1 (by kernel_rfl))
                have z0 := (hBq.cell (p := ⟨ng, 0, none⟩) hng).trans hn0
                refine wpOp_step (o := _) rfl (fun K' hK => ?_)
                have HK := Lib.hid hK
                clear hK
                simp only [lay, Act.put, List.setIfInBounds_toArray, List.set_cons_zero, List.set_cons_succ, List.getD_cons_zero, List.getD_cons_succ, id_eq]
                rw [e1']
                go_simp
                refine HK.out _ _ ⟨_, ?_, Below.refl _ _, rfl⟩
                simp only [lay, Act.put, List.setIfInBounds_toArray, List.set_cons_zero, List.set_cons_succ, List.getD_cons_zero, List.getD_cons_succ, id_eq]
                rw [e1']
              · refine wpOp_step (o := _) rfl (fun K' hK => ?_)
                have HK := Lib.hid hK
                clear hK
                simp only [lay, Act.put, List.setIfInBounds_toArray, List.set_cons_zero, List.set_cons_succ, List.getD_cons_zero, List.getD_cons_succ, id_eq]
                go_simp
                refine HK.out _ _ ⟨_, ?_, Below.refl _ _, rfl⟩
                simp only [lay, Act.put, List.setIfInBounds_toArray, List.set_cons_zero, List.set_cons_succ, List.getD_cons_zero, List.getD_cons_succ, id_eq]
              · have e3' : vs 3 = .slice (some ⟨ng, 0, none⟩) 2 nc := hd 3 (List.contains_iff_mem.1 (by kernel_rfl))
                refine wpOp_step (o := _) rfl (fun K' hK => ?_)
                have HK := Lib.hid hK
                clear hK
                simp only [lay, Act.put, List.setIfInBounds_toArray, List.set_cons_zero, List.set_cons_succ, List.getD_cons_zero, List.getD_cons_succ, id_eq]
                rw [e3']
                go_simp
                refine HK.out _ _ ⟨_, ?_, Below.refl _ _, rfl⟩
                simp only [lay, Act.put, List.setIfInBounds_toArray, List.set_cons_zero, List.set_cons_succ, List.getD_cons_zero, List.getD_cons_succ, id_eq]
                rw [e3']
              · have e4' : vs 4 = .pointer (some ⟨ng, 1, none⟩) := hd 4 (List.contains_iff_mem.1 (by kernel_rfl))
                have z0 := (hBq.cell (p := ⟨ng, 1, none⟩) hng).trans hn1
                refine wpOp_step (o := _) rfl (fun K' hK => ?_)
                have HK := Lib.hid hK
                clear hK
                simp only [lay, Act.put, List.setIfInBounds_toArray, List.set_cons_zero, List.set_cons_succ, List.getD_cons_zero, List.getD_cons_succ, id_eq]
                rw [e4']
                go_simp
                refine HK.out _ _ ⟨_, ?_, Below.refl _ _, rfl⟩
                simp only [lay, Act.put, List.setIfInBounds_toArray, List.set_cons_zero, List.set_cons_succ, List.getD_cons_zero, List.getD_cons_succ, id_eq]
                rw [e4']
              · refine wpOp_step (o := _) rfl (fun K' hK => ?_)
                have HK := Lib.hid hK
                clear hK
                simp only [lay, Act.put, List.setIfInBounds_toArray, List.set_cons_zero, List.set_cons_succ, List.getD_cons_zero, List.getD_cons_succ, id_eq]
                go_simp
                refine HK.out _ _ ⟨_, ?_, Below.refl _ _, rfl⟩
                simp only [lay, Act.put, List.setIfInBounds_toArray, List.set_cons_zero, List.set_cons_succ, List.getD_cons_zero, List.getD_cons_succ, id_eq]
              · refine wpOp_step (o := _) rfl (fun K' hK => ?_)
                have HK := Lib.hid hK
                clear hK
                simp only [lay, Act.put, List.setIfInBounds_toArray, List.set_cons_zero, List.set_cons_succ, List.getD_cons_zero, List.getD_cons_succ, id_eq]
                go_simp
                refine HK.out _ _ ⟨_, ?_, Below.refl _ _, rfl⟩
                simp only [lay, Act.put, List.setIfInBounds_toArray, List.set_cons_zero, List.set_cons_succ, List.getD_cons_zero, List.getD_cons_succ, id_eq]
              · have e2' : vs 2 = .int .i64 X := hd 2 (List.contains_iff_mem.1 (by kernel_rfl))
                have e5' : vs 5 = .int .i64 Y := hd 5 (List.contains_iff_mem.1 (by kernel_rfl))
                have e6' : vs 6 = .slice ra R1.length rc := hd 6 (List.contains_iff_mem.1 (by kernel_rfl))
                have e7' : vs 7 = .slice qa R2.length qc := hd 7 (List.contains_iff_mem.1 (by kernel_rfl))
                refine wpOp_step (o := _) rfl (fun K' hK => ?_)
                have HK := Lib.hid hK
                clear hK
                simp only [lay, Act.put, List.setIfInBounds_toArray, List.set_cons_zero, List.set_cons_succ, List.getD_cons_zero, List.getD_cons_succ, id_eq]
                rw [e2', e5', e6', e7']
                go_simp
                refine HK.out _ _ ⟨_, ?_, Below.refl _ _, rfl⟩
                simp only [lay, Act.put, List.setIfInBounds_toArray, List.set_cons_zero, List.set_cons_succ, List.getD_cons_zero, List.getD_cons_succ, id_eq]
                rw [e2', e5', e6', e7']
              · refine wpOp_step (o := _) rfl (fun K' hK => ?_)
                have HK := Lib.hid hK
                clear hK
                simp only [lay, Act.put, List.setIfInBounds_toArray, List.set_cons_zero, List.set_cons_succ, List.getD_cons_zero, List.getD_cons_succ, id_eq]
                go_simp
                refine HK.out _ _ ⟨_, ?_, (Below.refl _ _).alloc (Nat.le_refl _) _, _, rfl, BoxC.new _ _ _, hBq.size⟩
                simp only [lay, Act.put, List.setIfInBounds_toArray, List.set_cons_zero, List.set_cons_succ, List.getD_cons_zero, List.getD_cons_succ, id_eq]
            case tail =>
              intro vs wq hBq hf
              have e8 : vs 8 = .agg #[.int .i64 X, .int .i64 Y, .slice ra R1.length rc, .slice qa R2.length qc] := hf 8 (by decide)
              obtain ⟨p9, e9, b9, n9⟩ : isC (w4.heap.size) 37 #[.int .i64 0, .int .i64 0, .slice none 0 0, .slice none 0 0] (vs 9) wq := hf 9 (by decide)
              simp only [lay, Act.put, List.setIfInBounds_toArray, List.set_cons_zero, List.set_cons_succ, List.getD_cons_zero, List.getD_cons_succ, id_eq]
              rw [e8, e9]
              clear e8 e9
              refine any_all (rs := [10]) (by kernel_rfl) (by simp) ?_
              intro i hi
              simp only [List.mem_cons, List.not_mem_nil, or_false] at hi
              subst hi
              refine wpOp_step (o := _) rfl (fun K' hK => ?_)
              have HK := Lib.hid hK
              clear hK
              have kc0 := b9.c 0 rfl
              have kf0 := b9.f 0
              have kc1 := b9.c 1 rfl
              have kf1 := b9.f 1
              have kc2 := b9.c 2 rfl
              have kf2 := b9.f 2
              have kc3 := b9.c 3 rfl
              have kf3 := b9.f 3
              go_simp
              refine HK.out _ _ ?_
              clear HK K' kc0 kf0 kc1 kf1 kc2 kf2 kc3 kf3
              try simp only [Act.put, List.setIfInBounds_toArray, List.set_cons_zero, List.set_cons_succ]
              have b9' := ((((b9.put 0 (.int .i64 X)).put 1 (.int .i64 Y)).put 2 (.slice ra R1.length rc)).put 3 (.slice qa R2.length qc))
              have hBq' := ((((hBq.setCell (p := ⟨p9, 0, none⟩) n9 (.int .i64 X)).setCell (p := ⟨p9, 1, none⟩) n9 (.int .i64 Y)).setCell (p := ⟨p9, 2, none⟩) n9 (.slice ra R1.length rc)).setCell (p := ⟨p9, 3, none⟩) n9 (.slice qa R2.length qc))
              refine any_done (by kernel_rfl) ?_ _
              go_wp2_with fail
              go_meet
              exact ⟨p9, rfl, b9', n9, hBq'⟩
          case rest =>
            obtain ⟨p, rfl, bp, hpw, hb⟩ := hcut
            replace HO2 := Lib.hid (HO2.out.later hb)
            replace HO3 := Lib.hid (HO3.out.later hb)
            replace HR := Lib.hid (HR.out.later hb)
            replace HB := Lib.hid (HB.out.trans (hb.mono hg3))
            have HQ := Lib.hid bp
            have hpn : w.heap.size ≠ p := Nat.ne_of_lt (Nat.lt_of_lt_of_le hR4 hpw)
            have jf := implIsValidConfig X Y _ _ _ _ R1 R2 wc (by omega) (by omega) HO2.out HO3.out
            clear hb bp hR4 hn0 hn1
            have q0 := HQ.out.c 0 rfl
            have q1 := HQ.out.c 1 rfl
            have q2 := HQ.out.c 2 rfl
            have q3 := HQ.out.c 3 rfl
            by_cases h5 : CfgOk X Y R1 R2
            · rw [show cfgOk X Y R1 R2 = true from decide_eq_true h5] at jf
              have HF := Lib.hid (HGOOD.out h5)
              have JF := Lib.hid jf
              clear jf h5
              go_wp2_with fail
              refine JF.out.mono ?_
              rintro e w5 ⟨rfl, hb⟩
              replace HO2 := Lib.hid (HO2.out.later hb)
              replace HO3 := Lib.hid (HO3.out.later hb)
              replace HR := Lib.hid (HR.out.later hb)
              replace HQ := Lib.hid (HQ.out.later hb)
              replace HB := Lib.hid (HB.out.trans (hb.mono HB.out.size))
              clear hb JF q0 q1 q2 q3
              have q0 := HQ.out.c 0 rfl
              have q1 := HQ.out.c 1 rfl
              have q2 := HQ.out.c 2 rfl
              have q3 := HQ.out.c 3 rfl
              have r0 := HR.out.c 0 rfl
              have r1 := HR.out.c 1 rfl
              have r2 := HR.out.c 2 rfl
              have r3 := HR.out.c 3 rfl
              have f0 := HR.out.f 0
              have f1 := HR.out.f 1
              have f2 := HR.out.f 2
              have f3 := HR.out.f 3
              go_wp2_with fail
              refine bodyPost_ret (v := .tuple #[.agg #[.int .i64 X, .int .i64 Y, .slice ra R1.length rc, .slice qa R2.length qc], .bool true]) (by simp [results, Tryz.results13, go_sem, r0, r1, r2, r3]) rfl ?_
              refine ⟨_, _, by rw [HF.out.1, HF.out.2.1, HF.out.2.2.1], ?_, ?_, ?_, HAP.out⟩
              · rw [HF.out.2.2.2.1]
                exact row_put (row_put (row_put (row_put HO2.out.row HR.out (by decide) 0 _) (HR.out.put 0 _) (by decide) 1 _) ((HR.out.put 0 _).put 1 _) (by decide) 2 _) (((HR.out.put 0 _).put 1 _).put 2 _) (by decide) 3 _
              · rw [HF.out.2.2.2.2]
                exact row_put (row_put (row_put (row_put HO3.out.row HR.out (by decide) 0 _) (HR.out.put 0 _) (by decide) 1 _) ((HR.out.put 0 _).put 1 _) (by decide) 2 _) (((HR.out.put 0 _).put 1 _).put 2 _) (by decide) 3 _
              · exact
                  (((HB.out.setCell (p := ⟨w.heap.size, 0, none⟩) (Nat.le_refl _) _).setCell (p := ⟨w.heap.size, 1, none⟩) (Nat.le_refl _) _).setCell (p := ⟨w.heap.size, 2, none⟩) (Nat.le_refl _) _).setCell (p := ⟨w.heap.size, 3, none⟩) (Nat.le_refl _) _
            · rw [show cfgOk X Y R1 R2 = false from decide_eq_false h5] at jf
              have HF := Lib.hid (HBAD.out h5)
              have JF := Lib.hid jf
              clear jf h5
              go_wp2_with fail
              refine JF.out.mono ?_
              rintro e w5 ⟨rfl, hb⟩
              replace HR := Lib.hid (HR.out.later hb)
              replace HB := Lib.hid (HB.out.trans (hb.mono HB.out.size))
              clear hb JF q0 q1 q2 q3
              have r0 := HR.out.c 0 rfl
              have r1 := HR.out.c 1 rfl
              have r2 := HR.out.c 2 rfl
              have r3 := HR.out.c 3 rfl
              have f0 := HR.out.f 0
              have f1 := HR.out.f 1
              have f2 := HR.out.f 2
              have f3 := HR.out.f 3
              go_wp2_with fail
              refine bodyPost_ret (v := .tuple #[.agg #[.int .i64 0, .int .i64 0, .slice none 0 0, .slice none 0 0], .bool false]) (by simp [results, Tryz.results13, go_sem, r0, r1, r2, r3]) rfl ?_
              refine ⟨_, _, by rw [HF.out.1, HF.out.2.1, HF.out.2.2.1], by rw [HF.out.2.2.2.1]; exact World.ownsRow_nil _ _ _ _, by rw [HF.out.2.2.2.2]; exact World.ownsRow_nil _ _ _ _, ?_, apart_nil _ _ _⟩
              exact
                (((HB.out.setCell (p := ⟨w.heap.size, 0, none⟩) (Nat.le_refl _) _).setCell (p := ⟨w.heap.size, 1, none⟩) (Nat.le_refl _) _).setCell (p := ⟨w.heap.size, 2, none⟩) (Nat.le_refl _) _).setCell (p := ⟨w.heap.size, 3, none⟩) (Nat.le_refl _) _
  · have HF := Lib.hid (HNO.out (fun h => h4 h.1))
    have g4 : ((ps.length : Int) != 4) = true := by rw [bne_iff_ne]; omega
    clear h4 hpl
    have r0 := HR.out.c 0 rfl
    have r1 := HR.out.c 1 rfl
    have r2 := HR.out.c 2 rfl
    have r3 := HR.out.c 3 rfl
    have f0 := HR.out.f 0
    have f1 := HR.out.f 1
    have f2 := HR.out.f 2
    have f3 := HR.out.f 3
    go_wp2_with fail
    refine bodyPost_ret (v := .tuple #[.agg #[.int .i64 0, .int .i64 0, .slice none 0 0, .slice none 0 0], .bool false]) (by simp [results, Tryz.results13, go_sem, r0, r1, r2, r3]) rfl ?_
    refine ⟨_, _, by rw [HF.out.1, HF.out.2.1, HF.out.2.2.1], by rw [HF.out.2.2.2.1]; exact World.ownsRow_nil _ _ _ _, by rw [HF.out.2.2.2.2]; exact World.ownsRow_nil _ _ _ _, ?_, apart_nil _ _ _⟩
    exact
      (((HB.out.setCell (p := ⟨w.heap.size, 0, none⟩) (Nat.le_refl _) _).setCell (p := ⟨w.heap.size, 1, none⟩) (Nat.le_refl _) _).setCell (p := ⟨w.heap.size, 2, none⟩) (Nat.le_refl _) _).setCell (p := ⟨w.heap.size, 3, none⟩) (Nat.le_refl _) _
end Go.Proofs.YtgjebjoaemeeoaaGreatDoor.kit
namespace Go.Proofs.YtgjebjoaemeeoaaGreatDoor.kit
open Go.ChangeShapes Go.WideShapes Go.ChangeAt Go.RowKit
set_option linter.unusedVariables false
set_option linter.unusedSimpArgs false

set_option maxRecDepth 100000 in
set_option maxHeartbeats 2000000 in
theorem implEqualConfigs (x1 y1 : Int) (b1 b2 : Nat) (v1 v2 : Value) (L1 L2 : List Int) (x2 y2 : Int) (b3 b4 : Nat) (v3 v4 : Value) (M1 M2 : List Int) (w : World) (h1 : L1.length ≤ 4194304) (h2 : L2.length ≤ 4194304) (o1 : OwnI b1 w v1 L1) (o2 : OwnI b2 w v2 L2)
    (k1 : M1.length ≤ 4194304) (k2 : M2.length ≤ 4194304) (o3 : OwnI b3 w v3 M1) (o4 : OwnI b4 w v4 M2) :
    Calls Tryz.prog 26 #[.agg #[.int .i64 x1, .int .i64 y1, v1, v2], .agg #[.int .i64 x2, .int .i64 y2, v3, v4]] w fun e w' => e = .returned (.bool (decide (x1 = x2 ∧ y1 = y2 ∧ L1 = M1 ∧ L2 = M2))) ∧ Below w.heap.size w w' := by
  obtain ⟨W, hW⟩ : ∃ W, W = (w.alloc (.cells #[.int .i64 x1, .int .i64 y1, v1, v2] 37)).alloc (.cells #[.int .i64 x2, .int .i64 y2, v3, v4] 37) := ⟨_, rfl⟩
  have hB : Below w.heap.size w W := by rw [hW]; exact ((Below.refl _ _).alloc (Nat.le_refl _) _).alloc (by simp) _
  have HC := Lib.hid (show BoxC W w.heap.size 37 #[.int .i64 x1, .int .i64 y1, v1, v2] by rw [hW]; exact (BoxC.new _ _ _).later ((Below.refl _ _).alloc (Nat.le_refl _) _))
  have HR := Lib.hid (show BoxC W (w.heap.size + 1) 37 #[.int .i64 x2, .int .i64 y2, v3, v4] by
    rw [hW]
    have h := BoxC.new (w.alloc (.cells #[.int .i64 x1, .int .i64 y1, v1, v2] 37)) 37 #[.int .i64 x2, .int .i64 y2, v3, v4]
    rwa [World.size_alloc] at h)
  have HB := Lib.hid hB
  have HW := Lib.hid hW
  have J1 := Lib.hid (implEqualServers b1 v1 L1 b3 v3 M1 W h1 (o1.later hB) k1 (o3.later hB))
  have J2 := Lib.hid (fun W' (h : Below w.heap.size w W') => implEqualServers b2 v2 L2 b4 v4 M2 W' h2 (o2.later h) k2 (o4.later h))
  have HE := Lib.hid (show decide (x1 = x2 ∧ y1 = y2 ∧ L1 = M1 ∧ L2 = M2) = (decide (x1 = x2) && (decide (y1 = y2) && (decide (L1 = M1) && decide (L2 = M2)))) by simp)
  obtain ⟨z1, q1, rfl⟩ := o1.shape
  obtain ⟨z2, q2, rfl⟩ := o2.shape
  obtain ⟨z3, q3, rfl⟩ := o3.shape
  obtain ⟨z4, q4, rfl⟩ := o4.shape
  clear hB hW o1 o2 o3 o4
  generalize decide (x1 = x2 ∧ y1 = y2 ∧ L1 = M1 ∧ L2 = M2) = R at *
  have c0 := HC.out.c 0 rfl
  have c1 := HC.out.c 1 rfl
  have c2 := HC.out.c 2 rfl
  have c3 := HC.out.c 3 rfl
  have r0 := HR.out.c 0 rfl
  have r1 := HR.out.c 1 rfl
  have r2 := HR.out.c 2 rfl
  have r3 := HR.out.c 3 rfl
  go_enter Tryz.func26, Tryz.ntmps26
  by_cases e1 : x1 = x2
  · rw [decide_eq_true e1, Bool.true_and] at HE
    have g1 : (x1 == x2) = true := by rw [e1]; simp
    clear e1
    by_cases e2 : y1 = y2
    · rw [decide_eq_true e2, Bool.true_and] at HE
      have g2 : (y1 == y2) = true := by rw [e2]; simp
      clear e2
      go_wp2_with fail
      rw [← HW.out]
      have j1 := J1.out
      generalize decide (L1 = M1) = p at *
      go_wp2_with fail
      refine j1.mono ?_
      rintro e w1 ⟨rfl, hb⟩
      replace HC := Lib.hid (HC.out.later hb)
      replace HR := Lib.hid (HR.out.later hb)
      replace HB := Lib.hid (HB.out.trans (hb.mono HB.out.size))
      clear hb j1 J1 HW c0 c1 c2 c3 r0 r1 r2 r3
      have c0 := HC.out.c 0 rfl
      have c1 := HC.out.c 1 rfl
      have c2 := HC.out.c 2 rfl
      have c3 := HC.out.c 3 rfl
      have r0 := HR.out.c 0 rfl
      have r1 := HR.out.c 1 rfl
      have r2 := HR.out.c 2 rfl
      have r3 := HR.out.c 3 rfl
      cases p with
      | false =>
        rw [Bool.false_and] at HE
        clear J2
        go_wp2_with fail
        go_ret
        exact ⟨by rw [HE.out]; rfl, HB.out⟩
      | true =>
        rw [Bool.true_and] at HE
        go_wp2_with fail
        have j2 := J2.out _ HB.out
        generalize decide (L2 = M2) = p at *
        refine j2.mono ?_
        rintro e w2 ⟨rfl, hb⟩
        replace HB := Lib.hid (HB.out.trans (hb.mono HB.out.size))
        clear hb j2 J2 c0 c1 c2 c3 r0 r1 r2 r3
        go_wp2_with fail
        go_ret
        exact ⟨by rw [HE.out]; rfl, HB.out⟩
    · rw [decide_eq_false e2, Bool.false_and] at HE
      have g2 : (y1 == y2) = false := by rw [beq_eq_false_iff_ne]; exact e2
      clear e2 J1 J2
      go_wp2_with fail
      rw [← HW.out]
      clear HW
      go_wp2_with fail
      go_ret
      exact ⟨by rw [HE.out]; rfl, HB.out⟩
  · rw [decide_eq_false e1, Bool.false_and] at HE
    have g1 : (x1 == x2) = false := by rw [beq_eq_false_iff_ne]; exact e1
    clear e1 J1 J2
    go_wp2_with fail
    rw [← HW.out]
    clear HW
    go_wp2_with fail
    go_ret
    exact ⟨by rw [HE.out]; rfl, HB.out⟩
end Go.Proofs.YtgjebjoaemeeoaaGreatDoor.kit
namespace Go.Proofs.YtgjebjoaemeeoaaGreatDoor.kit
open Go.ChangeShapes Go.WideShapes Go.ChangeAt Go.RowKit
set_option linter.unusedVariables false
set_option linter.unusedSimpArgs false

/-- some object is out of its range -/
def wild (O : List Int) : Prop := ∃ j, j < O.length ∧ okV (O.getD j 0) = false
theorem wild_no {O : List Int} (h : wild O) : ∀ L2, ¬ MOk O L2 := fun L2 hm => by
  obtain ⟨j, hj, hv⟩ := h
  have := hm.2.1 j hj
  rw [hv] at this
  cases this
theorem wild_snoc {O : List Int} (h : wild O) (x : Int) : wild (O ++ [x]) := by
  obtain ⟨j, hj, hv⟩ := h
  refine ⟨j, by simp; omega, ?_⟩
  have e : (O ++ [x]).getD j 0 = O.getD j 0 := by simp [List.getD, List.getElem?_append_left hj]
  rw [e]; exact hv
theorem wild_new (O : List Int) {x : Int} (h : okV x = false) : wild (O ++ [x]) := by
  refine ⟨O.length, by simp, ?_⟩
  have e : (O ++ [x]).getD O.length 0 = x := by simp [List.getD]
  rw [e]; exact h
/-- what has been read of the objects -/
def objR (p : List UInt8) (k : Nat) (O : List Int) : Prop := O.length ≤ k ∧ ((wild O ∧ ∃ b ∈ p, isDig b = false) ∨ O = (p.take k).map digV)
theorem objR_one {s : ByteArray} {k : Nat} (h : k < s.size) {O : List Int} (hr : objR s.data.toList k O) : objR s.data.toList (k + 1) (O ++ [(s[k].toNat : Int) - 48]) := by
  obtain ⟨hl, hr⟩ := hr
  refine ⟨by simp; omega, ?_⟩
  rcases hr with ⟨h1, h2⟩ | h1
  · exact .inl ⟨wild_snoc h1 _, h2⟩
  · right
    have hl' : k < s.data.toList.length := by rw [Array.length_toList]; exact h
    rw [List.take_succ_eq_append_getElem hl', List.map_append, h1]
    rfl
theorem objR_wide {s : ByteArray} {k n : Nat} (h : k < s.size) (hn : 1 ≤ n) (hb : 128 ≤ s[k].toNat) {r : Int} (hr128 : 128 ≤ r) {O : List Int} (hr : objR s.data.toList k O) : objR s.data.toList (k + n) (O ++ [r - 48]) := by
  obtain ⟨hl, hr⟩ := hr
  have hl' : k < s.data.toList.length := by rw [Array.length_toList]; exact h
  refine ⟨by simp; omega, .inl ⟨wild_new O ?_, s[k], ?_, ?_⟩⟩
  · unfold okV; exact decide_eq_false (by omega)
  · exact List.getElem_mem hl'
  · unfold isDig; exact decide_eq_false (by omega)
theorem objR_all {p : List UInt8} (h3 : p.length = 3) {O : List Int} (hr : objR p 3 O) : ObjI p O := by
  obtain ⟨hl, hr⟩ := hr
  rcases hr with ⟨h1, b, hb, hd⟩ | h1
  · exact .inr ⟨fun h => (by have := h.2 b hb; rw [hd] at this; cases this), wild_no h1⟩
  · rw [List.take_of_length_le (by omega)] at h1
    by_cases hd : ∀ b ∈ p, isDig b = true
    · exact .inl ⟨h3, hd, h1⟩
    · refine .inr ⟨fun h => hd h.2, fun L2 hm => hd (fun b hb => ?_)⟩
      obtain ⟨j, hj, rfl⟩ := List.mem_iff_getElem.1 hb
      have h2 := hm.2.1 j (by rw [h1, List.length_map]; exact hj)
      have e : O.getD j 0 = digV p[j] := by rw [h1]; simp [List.getD, hj]
      rw [e] at h2
      have h4 := okV_in' h2
      unfold digV at h4
      unfold isDig
      exact decide_eq_true (by omega)
theorem objI_not3 {p : List UInt8} (h : p.length ≠ 3) : ObjI p [] := .inr ⟨fun h' => h h'.1, fun L2 hm => by have := hm.1; simp at this⟩
set_option maxRecDepth 100000 in
set_option maxHeartbeats 8000000 in
theorem implParseObjects (s : ByteArray) (w : World) (hs : s.size ≤ 1048576) :
    Calls Tryz.prog 51 #[.string s] w fun e w' => ∃ v O, e = .returned v ∧ OwnI w.heap.size w' v O ∧ ObjI s.data.toList O ∧ O.length ≤ 3 ∧ Below w.heap.size w w' := by
  have hl : s.data.toList.length = s.size := by rw [Array.length_toList]; rfl
  by_cases h3 : s.size = 3
  · have g0 : ((s.size : Int) != 3) = false := by rw [h3]; rfl
    have HALL := Lib.hid (fun O h => objR_all (p := s.data.toList) (O := O) (by rw [hl]; exact h3) h)
    have H3 := Lib.hid h3
    have hs3 : s.size ≤ 3 := by omega
    have hmk : ∀ W : World, (Instr.makeSlice 35 (.int .i64 0) (.int .i64 3)).run Tryz.prog W = .ok (.slice (some ⟨W.heap.size, 0, none⟩) 0 3) (W.alloc (.cells (madeCells #[.int .i64 0] 3) 3)) := fun W => by
      obtain ⟨i0, hi, hz0, hz1, hz2⟩ := info_parts infoI
      have h := run_make (P := Tryz.prog) W 35 3 i0 (.int .i64 0) Tryz.underlying35 hi hz0 .i64 .i64 0 3 (by omega) (by omega) (by rw [hz2]; omega) (by omega)
      simpa [hz1, Value.cells] using h
    clear hl h3
    go_enter Tryz.func51, Tryz.ntmps51
    go_wp2_with fail
    clear hmk
    go_loopw [3] (fun v wr => ∃ k O, k ≤ s.size ∧ wr.heap[w.heap.size + 1]? = some (.stringIter s k) ∧ Hid (objR s.data.toList k O) ∧ OwnI w.heap.size wr v O ∧ Below w.heap.size w wr) (fun _ wr => s.size - wr.iterPos (w.heap.size + 1))
    case atStart =>
      have hb0 := (Below.refl w.heap.size w).alloc (Nat.le_refl _) (.cells (madeCells #[.int .i64 0] 3) 3)
      refine ⟨0, [], Nat.zero_le _, ?_, Lib.hid ⟨by simp, .inr rfl⟩, ?_, ?_⟩
      · have h := World.iter_heap (w.alloc (.cells (madeCells #[.int .i64 0] 3) 3)) s 0
        simpa using h
      · exact (World.ownsRow_made w _ _ (Nat.le_refl _) (by unfold maxLen; omega) (by simp [size_madeCells])).alloc _
      · exact hb0.alloc (by simp) _
    case round =>
      obtain ⟨k, O, hk, hit, HR, hown, hb⟩ := hrel
      have HPOS : Hid (wr.iterPos (w.heap.size + 1) = k) := Lib.hid (iterPos_of hit)
      have HIT := Lib.hid hit
      have hK : w.heap.size + 1 < wr.heap.size := (Array.getElem?_eq_some_iff.1 hit).1
      have hol : O.length ≤ 3 := by have := HR.out.1; omega
      clear hit
      by_cases hlt : k < s.size
      · by_cases hlow : s[k].toNat < 128
        · have hnx := fun ty => Lib.run_next_ascii_at (P := Tryz.prog) wr (w.heap.size + 1) s k ty HIT.out hlt hlow
          have HITA := Lib.hid (Lib.iterAt_heap wr (w.heap.size + 1) s k (k + 1) HIT.out)
          have hownA := own_iterAt hown.row HIT.out (k + 1)
          have hbA := Lib.below_iterAt hb (show w.heap.size ≤ w.heap.size + 1 by omega) s (k + 1)
          have HN := Lib.hid (objR_one hlt HR.out)
          have j3 : IntKind.i32.wrap ((s[k].toNat : Int) - 48) = (s[k].toNat : Int) - 48 := IntWalk.i32_in _ (by omega)
          have j4 : IntKind.i64.wrap ((s[k].toNat : Int) - 48) = (s[k].toNat : Int) - 48 := IntWalk.i64_in _ (by omega)
          go_wp2_with (at_builtin; refine wpList_push1 rfl _ _ 35 rfl w.heap.size 3 (.int .i64 0) 8 Tryz.underlying35 infoI rfl _ _ _ rfl hownA _ 1 rfl (by rfl) (by omega) (by omega) hbA.size ?_; intro v' w2 hown' hb2 hg2)
          have HITC := Lib.hid (iter_grown HITA.out hg2 (own_ne_iter hownA HITA.out))
          go_roundw
          case rel => exact ⟨k + 1, _, by omega, HITC.out, HN, OwnI.snoc hown', hbA.trans hb2⟩
          case measure => rw [HPOS.out, iterPos_of HITC.out]; omega
        · have hdb := decode_bytes s k hlt (by omega)
          have hnx := fun ty => Lib.run_next_any_at (P := Tryz.prog) wr (w.heap.size + 1) s k ty HIT.out hlt
          have hd1 := decode_high s k hlt (by omega)
          have hd2 := decode_le s k
          have HW := Lib.hid (fun n hn r hr => objR_wide (s := s) (k := k) (n := n) hlt hn (by omega) (r := r) hr HR.out)
          obtain ⟨d, hd⟩ : ∃ d, d = Utf8.decode s k := ⟨_, rfl⟩
          simp only [← hd] at hnx hd1 hdb hd2
          clear hd
          obtain ⟨r, n⟩ := d
          simp only at hnx hd1 hdb hd2
          have hle := (hdb (n - 1) (by omega)).1
          have HN := Lib.hid (HW.out n (by omega) r (by omega))
          have HITA := Lib.hid (Lib.iterAt_heap wr (w.heap.size + 1) s k (k + n) HIT.out)
          have hownA := own_iterAt hown.row HIT.out (k + n)
          have hbA := Lib.below_iterAt hb (show w.heap.size ≤ w.heap.size + 1 by omega) s (k + n)
          have j3 : IntKind.i32.wrap ((r : Int) - 48) = (r : Int) - 48 := IntWalk.i32_in _ (by omega)
          have j4 : IntKind.i64.wrap ((r : Int) - 48) = (r : Int) - 48 := IntWalk.i64_in _ (by omega)
          clear hdb HW
          go_wp2_with (at_builtin; refine wpList_push1 rfl _ _ 35 rfl w.heap.size 3 (.int .i64 0) 8 Tryz.underlying35 infoI rfl _ _ _ rfl hownA _ 1 rfl (by rfl) (by omega) (by omega) hbA.size ?_; intro v' w2 hown' hb2 hg2)
          have HITC := Lib.hid (iter_grown HITA.out hg2 (own_ne_iter hownA HITA.out))
          go_roundw
          case rel => exact ⟨k + n, _, by omega, HITC.out, HN, OwnI.snoc hown', hbA.trans hb2⟩
          case measure => rw [HPOS.out, iterPos_of HITC.out]; omega
      · obtain rfl : k = s.size := by omega
        have hnx := fun ty => Lib.run_next_end_at (P := Tryz.prog) wr (w.heap.size + 1) s s.size ty HIT.out hlt
        have HF := Lib.hid (HALL.out O (by have h := HR.out; rw [H3.out] at h; exact h))
        go_wp2_with fail
        go_ret
        exact ⟨_, O, rfl, hown, HF.out, hol, hb⟩
  · have g0 : ((s.size : Int) != 3) = true := by rw [bne_iff_ne]; omega
    have HF := Lib.hid (objI_not3 (p := s.data.toList) (by rw [hl]; exact h3))
    clear hl h3
    go_enter Tryz.func51, Tryz.ntmps51
    go_wp2_with fail
    go_ret
    exact ⟨_, [], rfl, World.ownsRow_nil _ _ _ _, HF.out, by simp, Below.refl _ _⟩
theorem run_behind (W : World) (g n cap : Nat) : (Instr.slice 65 (.slice (some ⟨g, 0, none⟩) (n + 1) (cap + 1)) (some (.int .i64 1)) none none).run Tryz.prog W = .ok (.slice (some ⟨g, if cap = 0 then 0 else 1, none⟩) n cap) W := by
  rw [run_slice_l (P := Tryz.prog) W 65 (some ⟨g, 0, none⟩) (n + 1) (cap + 1) (by kernel_rfl) .i64 1 (by omega) (by omega)]
  have hs : (sizeOf (Tryz.prog.elem 65)).run Tryz.prog W = .ok 1 W := by kernel_rfl
  rw [hs]
  show Result.ok (sliced (some ⟨g, 0, none⟩) 1 (n + 1) (cap + 1) 1) W = _
  unfold sliced
  by_cases h : cap = 0
  · subst h; rfl
  · have e : ¬ cap + 1 = 1 := by omega
    simp [h, Addr.add]
def pxE (ps : List (List UInt8)) (m : Nat) : List Sess := ((ps.drop 1).take m).map px
theorem pxE_len {ps : List (List UInt8)} {m : Nat} (h : m + 1 ≤ ps.length) : (pxE ps m).length = m := by unfold pxE; rw [List.length_map, List.length_take, List.length_drop]; omega
theorem pxE_succ {ps : List (List UInt8)} {j : Nat} (h : j + 1 < ps.length) : pxE ps (j + 1) = pxE ps j ++ [px (ps.getD (j + 1) [])] := by
  unfold pxE
  have hl : j < (ps.drop 1).length := by rw [List.length_drop]; omega
  rw [List.take_succ_eq_append_getElem hl, List.map_append]
  congr 2
  rw [List.getElem_drop]
  simp [List.getD, h, Nat.add_comm 1 j]
theorem pxE_all {ps : List (List UInt8)} {m : Nat} (h : ps.length ≤ m + 1) : pxE ps m = (ps.drop 1).map px := by unfold pxE; rw [List.take_of_length_le (by rw [List.length_drop]; omega)]
theorem px_all {ps : List (List UInt8)} (h : ∀ j, j + 1 < ps.length → pxOk (ps.getD (j + 1) []) = true) : ∀ p ∈ ps.drop 1, pxOk p = true := fun p hp => by
  obtain ⟨j, hj, rfl⟩ := List.mem_iff_getElem.1 hp
  rw [List.length_drop] at hj
  have := h j (by omega)
  rw [List.getElem_drop]
  have e : ps.getD (j + 1) [] = ps[1 + j] := by simp [List.getD, show j + 1 < ps.length by omega, Nat.add_comm 1 j]
  rwa [e] at this
theorem px_bad {s : List UInt8} {O : List Int} (hO : ObjI ((wsI s).getD 0 []) O) {j : Nat} (h : j + 1 < (wsI s).length) (hk : pxOk ((wsI s).getD (j + 1) []) = false) : parMok s = false ∧ parMO s = [] ∧ parMX s = [] :=
  machine_no hO (fun hh => by
    have hm : (wsI s).getD (j + 1) [] ∈ (wsI s).drop 1 := by
      have hl : j < ((wsI s).drop 1).length := by rw [List.length_drop]; omega
      have e : (wsI s).getD (j + 1) [] = ((wsI s).drop 1)[j] := by
        rw [List.getElem_drop]
        simp [List.getD, h, Nat.add_comm 1 j]
      rw [e]
      exact List.getElem_mem hl
    have := hh.1 _ hm
    rw [hk] at this
    cases this)
theorem splitM (s : ByteArray) (w : World) (hs : s.size ≤ 1048576) (hM : Mx w) :
    Calls Tryz.prog 33 #[.string s, .string { data := #[32] }, .int .i64 4] w fun e w' => ∃ g cap, e = .returned (.slice (some ⟨g, 0, none⟩) (wsI s.data.toList).length cap) ∧ (wsI s.data.toList).length ≤ cap ∧ cap ≤ 4 ∧ w.heap.size ≤ g ∧
      PartsAt w' g (wsI s.data.toList) ∧ Below w.heap.size w w' := splitWordsK 32 3 (by omega) s w hs hM
set_option maxRecDepth 100000 in
set_option maxHeartbeats 16000000 in
theorem implParseMachine (s : ByteArray) (w : World) (hs : s.size ≤ 1048576) (hT : Tab w) (hM : Mx w) :
    Calls Tryz.prog 16 #[.string s] w fun e w' => ∃ u1 u2, e = .returned (.tuple #[.agg #[u1, u2], .bool (parMok s.data.toList)]) ∧ OwnI w.heap.size w' u1 (parMO s.data.toList) ∧ OwnS w.heap.size w' u2 (parMX s.data.toList) ∧ Below w.heap.size w w' := by
  have hl : s.data.toList.length = s.size := by rw [Array.length_toList]; rfl
  have hpl : ∀ j, ((wsI s.data.toList).getD j []).length ≤ 1048576 := fun j => by
    rcases Nat.lt_or_ge j (wsI s.data.toList).length with h | h
    · have hm : (wsI s.data.toList).getD j [] ∈ wsI s.data.toList := by simp [List.getD, h]
      have := split_mem 32 _ _ _ hm
      omega
    · simp [List.getD, h]
  have hp0 : 0 < (wsI s.data.toList).length := split_pos 32 3 s.data.toList
  obtain ⟨W, hW⟩ : ∃ W, W = w.alloc (.cells #[.slice none 0 0, .slice none 0 0] 44) := ⟨_, rfl⟩
  have HB := Lib.hid (show Below w.heap.size w W by rw [hW]; exact (Below.refl _ _).alloc (Nat.le_refl _) _)
  have HR := Lib.hid (show BoxC W w.heap.size 44 #[.slice none 0 0, .slice none 0 0] by rw [hW]; exact BoxC.new _ _ _)
  have hWs : W.heap.size = w.heap.size + 1 := by rw [hW]; simp
  have HW := Lib.hid hW
  have HT := Lib.hid (fun W' (h : Below w.heap.size w W') => hT.below h)
  have HM := Lib.hid (fun W' (h : Below w.heap.size w W') => hM.below h)
  have JC := Lib.hid (splitM s W hs (HM.out _ HB.out))
  have HBAD := Lib.hid (fun O (h : ObjI ((wsI s.data.toList).getD 0 []) O) j h1 h2 => px_bad (j := j) h h1 h2)
  have HYES := Lib.hid (fun O (h : ObjI ((wsI s.data.toList).getD 0 []) O) => machine_yes h)
  have HNO := Lib.hid (fun O (h : ObjI ((wsI s.data.toList).getD 0 []) O) => machine_no h)
  have HPL := Lib.hid hpl
  clear hl hW hT hM hpl
  go_enter Tryz.func16, Tryz.ntmps16
  go_wp2_with fail
  rw [← HW.out]
  refine JC.out.mono ?_
  rintro e w1 ⟨g, cap, rfl, hn, hc4, hgw, hp, hb⟩
  clear JC HW
  have HP := Lib.hid hp
  replace HR := Lib.hid (HR.out.later hb)
  have hg0 : w.heap.size ≤ w1.heap.size := by have := hb.size; omega
  replace HB := Lib.hid (HB.out.trans (hb.mono HB.out.size))
  clear hp hb
  generalize wsI s.data.toList = ps at *
  have hcell := HP.out.2 0 hp0
  have hq0 := HPL.out 0
  obtain ⟨sb, hsb⟩ : ∃ sb : ByteArray, sb.data.toList = ps.getD 0 [] := ⟨⟨(ps.getD 0 []).toArray⟩, by simp⟩
  have e1 : str (ps.getD 0 []) = .string sb := by rw [← hsb]
  rw [e1] at hcell
  rw [← hsb] at hq0 HBAD HYES HNO
  rw [Array.length_toList] at hq0
  have JO := Lib.hid (implParseObjects sb w1 hq0)
  obtain ⟨n1, hn1⟩ : ∃ n1, ps.length = n1 + 1 := ⟨ps.length - 1, by omega⟩
  obtain ⟨c1, hc1⟩ : ∃ c1, cap = c1 + 1 := ⟨cap - 1, by omega⟩
  subst hc1
  obtain ⟨A, hA⟩ : ∃ A, A = (if c1 = 0 then 0 else 1) := ⟨_, rfl⟩
  have HA := Lib.hid (show 0 < n1 → A = 1 from fun h => by rw [hA, if_neg (by omega)])
  have RS := fun W => run_behind W g n1 c1
  rw [← hA] at RS
  have HN1 := Lib.hid hn1
  have hn3 : n1 ≤ 3 := by omega
  rw [hn1]
  clear hA hn1 hn hc4
  clear hsb e1 hq0
  go_wp2_with fail
  refine JO.out.mono ?_
  rintro e w2 ⟨u1, O, rfl, ho, hO, hol, hb⟩
  obtain ⟨ua, uc, rfl⟩ := ho.shape
  have hbA := (Below.refl w2.heap.size w2).alloc (Nat.le_refl _) (.cells #[.slice ua O.length uc, .slice none 0 0] 44)
  have HMB := Lib.hid (BoxC.new w2 44 #[.slice ua O.length uc, .slice none 0 0])
  replace HP := Lib.hid ((HP.out.later hb).later hbA)
  have hs2 : w.heap.size < w2.heap.size := Nat.lt_of_lt_of_le HR.out.lt hb.size
  replace HR := Lib.hid ((HR.out.later hb).later hbA)
  replace HB := Lib.hid ((HB.out.trans (hb.mono HB.out.size)).trans (hbA.mono (Nat.le_of_lt hs2)))
  have HO := Lib.hid (((OwnI.mono ho hg0)).later hbA)
  replace HBAD := Lib.hid (HBAD.out O hO)
  replace HYES := Lib.hid (HYES.out O hO)
  replace HNO := Lib.hid (HNO.out O hO)
  clear ho hb hbA JO hO hcell
  obtain ⟨pm, hpm⟩ : ∃ q, q = w2.heap.size := ⟨_, rfl⟩
  obtain ⟨w3, hw3⟩ : ∃ q, q = w2.alloc (.cells #[.slice ua O.length uc, .slice none 0 0] 44) := ⟨_, rfl⟩
  rw [← hw3] at HP HR HB HO HMB
  rw [← hpm] at HMB hs2
  have HW3 := Lib.hid hw3
  have HPM := Lib.hid hpm
  have hne : w.heap.size ≠ pm := Nat.ne_of_lt hs2
  have hpb : w.heap.size ≤ pm := Nat.le_of_lt hs2
  clear hw3 hpm
  go_wp2_with fail
  rw [← HW3.out, ← HPM.out]
  clear HW3 HPM
  go_wp2_with fail
  go_loopw [20] (fun i wr => ∃ (k : Nat) (u2 : Value), k ≤ n1 ∧ i = .int .i64 k ∧ Hid (BoxC wr pm 44 #[.slice ua O.length uc, u2]) ∧ Hid (OwnI w.heap.size wr (.slice ua O.length uc) O) ∧ Hid (OwnS w.heap.size wr u2 (pxE ps k)) ∧ Hid (∀ j, j < k → pxOk (ps.getD (j + 1) []) = true) ∧ Hid (PartsAt wr g ps) ∧ Hid (BoxC wr w.heap.size 44 #[.slice none 0 0, .slice none 0 0]) ∧ Hid (Below w.heap.size w wr)) (fun i _ => n1 - (intOf i).toNat)
  case atStart => exact ⟨0, _, Nat.zero_le _, rfl, HMB, HO, Lib.hid (World.ownsRow_nil _ _ _ _), Lib.hid (fun j hj => by omega), HP, HR, HB⟩
  clear HMB HO HP HR HB
  case round =>
    obtain ⟨k, u2, hk, rfl, HMB, HO, HOS, HJ, HP, HR, HB⟩ := hrel
    obtain ⟨xa, xc, rfl⟩ := HOS.out.shape
    have hlx := pxE_len (ps := ps) (m := k) (by have := HN1.out; omega)
    have HM' := HMB.out
    have HO' := HOS.out
    rw [hlx] at HM' HO'
    replace HMB := Lib.hid HM'
    replace HOS := Lib.hid HO'
    clear HM' HO'
    have k3 : (0 : Int) ≤ (k : Int) := by omega
    by_cases hlt1 : k < n1
    · have hA1 := HA.out (by omega)
      subst hA1
      have hlt : k + 1 < ps.length := by have := HN1.out; omega
      have k6 : (k : Int) < (n1 : Int) := by omega
      have HX := Lib.hid (show pxE ps (k + 1) = pxE ps k ++ [px (ps.getD (1 + k) [])] by rw [Nat.add_comm 1 k]; exact pxE_succ hlt)
      have hcj := HP.out.2 (k + 1) hlt
      rw [Nat.add_comm k 1] at hcj
      have hsj := HPL.out (1 + k)
      have HBK := Lib.hid (HBAD.out k hlt)
      have HJS := Lib.hid (fun (h : pxOk (ps.getD (1 + k) []) = true) (j : Nat) (hj : j < k + 1) => show pxOk (ps.getD (j + 1) []) = true by
        by_cases e : j = k
        · rw [e, Nat.add_comm k 1]; exact h
        · exact HJ.out j (by omega))
      rw [Nat.add_comm k 1] at HBK
      have JE := Lib.hid (implParseSession (ps.getD (1 + k) []) wr hsj (HT.out _ HB.out) (HM.out _ HB.out))
      generalize ps.getD (1 + k) [] = p at *
      cases hq : pxOk p with
      | false =>
        have HF := Lib.hid (HBK.out hq)
        rw [hq, pxV_no hq] at JE
        clear hq
        go_wp2_with fail
        refine JE.out.mono ?_
        rintro e w5 ⟨rfl, hb⟩
        have hbA := (Below.refl w5.heap.size w5).alloc (Nat.le_refl _) (.cells #[.int .i64 0, .int .i64 0, .bool false, .int .i64 0] 98)
        replace HR := Lib.hid ((HR.out.later hb).later hbA)
        replace HB := Lib.hid ((HB.out.trans (hb.mono HB.out.size)).trans (hbA.mono (Nat.le_trans HB.out.size hb.size)))
        clear hb JE hbA hcj
        have r0 := HR.out.c 0 rfl
        have r1 := HR.out.c 1 rfl
        have f0 := HR.out.f 0
        have f1 := HR.out.f 1
        go_wp2_with fail
        refine bodyPost_ret (v := .tuple #[.agg #[.slice none 0 0, .slice none 0 0], .bool false]) (by simp [results, Tryz.results16, go_sem, r0, r1]) rfl ?_
        exact ⟨_, _, by rw [HF.out.1], by rw [HF.out.2.1]; exact World.ownsRow_nil _ _ _ _, by rw [HF.out.2.2]; exact World.ownsRow_nil _ _ _ _, (HB.out.setCell (p := ⟨w.heap.size, 0, none⟩) (Nat.le_refl _) _).setCell (p := ⟨w.heap.size, 1, none⟩) (Nat.le_refl _) _⟩
      | true =>
        replace HJS := Lib.hid (HJS.out hq)
        rw [hq, pxV_yes hq] at JE
        obtain ⟨xx, xs, xd, xv, hx⟩ : ∃ a b c d, px p = (a, b, c, d) := ⟨_, _, _, _, rfl⟩
        rw [hx] at JE HX
        unfold sessV at JE
        simp only at JE
        clear hq hx hsj HBK HJ
        go_wp2_with fail
        refine JE.out.mono ?_
        rintro e w5 ⟨rfl, hb⟩
        have hbA := (Below.refl w5.heap.size w5).alloc (Nat.le_refl _) (.cells #[.int .i64 xx, .int .i64 xs, .bool xd, .int .i64 xv] 98)
        replace HMB := Lib.hid ((HMB.out.later hb).later hbA)
        replace HO := Lib.hid ((HO.out.later hb).later hbA)
        replace HOS := Lib.hid ((HOS.out.later hb).later hbA)
        replace HP := Lib.hid ((HP.out.later hb).later hbA)
        replace HR := Lib.hid ((HR.out.later hb).later hbA)
        replace HB := Lib.hid ((HB.out.trans (hb.mono HB.out.size)).trans (hbA.mono (Nat.le_trans HB.out.size hb.size)))
        have r0 := HMB.out.c 0 rfl
        have r1 := HMB.out.c 1 rfl
        clear hb hbA JE hcj
        have hbL := (Below.refl (w5.alloc (.cells #[.int .i64 xx, .int .i64 xs, .bool xd, .int .i64 xv] 98)).heap.size (w5.alloc (.cells #[.int .i64 xx, .int .i64 xs, .bool xd, .int .i64 xv] 98))).alloc (Nat.le_refl _) (.cells #[.int .i64 xx, .int .i64 xs, .bool xd, .int .i64 xv] 98)
        have hlit := SrcS.lit (w5.alloc (.cells #[.int .i64 xx, .int .i64 xs, .bool xd, .int .i64 xv] 98)) (xx, xs, xd, xv)
        simp only [World.size_alloc] at hlit
        have HML := Lib.hid (HMB.out.later hbL)
        have HOL := Lib.hid (HO.out.later hbL)
        have HOSL := Lib.hid (HOS.out.later hbL)
        have HPL2 := Lib.hid (HP.out.later hbL)
        have HRL := Lib.hid (HR.out.later hbL)
        have HBL := Lib.hid (HB.out.trans (hbL.mono HB.out.size))
        have hs2 := HBL.out.size
        simp only [World.size_alloc] at hs2
        clear hbL
        go_wp2_with (at_builtin; refine wpList_appS rfl (.tmp 33) (.tmp 35) rfl w.heap.size _ (pxE ps k) rfl HOSL.out _ _ [(xx, xs, xd, xv)] rfl hlit (by rw [hlx]; simp; omega) (by simp; omega) ?_; intro v' w6 ho6 hb6 hg6; have HM6 := Lib.hid (HML.out.past (by decide) HOSL.out.row hg6); have HO6 := Lib.hid (rows_past HOL.out.row HOSL.out.row (by decide) hg6); have HP6 := Lib.hid (HPL2.out.past (by decide) HOSL.out.row hg6); have HR6 := Lib.hid (HRL.out.past (by decide) HOSL.out.row hg6); have HB6 := Lib.hid (HBL.out.trans hb6); rw [← HX.out] at ho6; obtain ⟨va, vc, hv6⟩ := ho6.shape; rw [pxE_len (ps := ps) (m := k + 1) hlt] at hv6; subst hv6; have s0 := HM6.out.c 0 rfl; have s1 := HM6.out.c 1 rfl; have sf := HM6.out.f 1)
        have HM7 := Lib.hid (HM6.out.put 1 (.slice va (k + 1) vc))
        have HO7 := Lib.hid (row_put HO6.out HM6.out (by decide) 1 (.slice va (k + 1) vc))
        have HOS7 := Lib.hid (row_put ho6.row HM6.out (by decide) 1 (.slice va (k + 1) vc))
        have HP7 := Lib.hid (HP6.out.put HM6.out (by decide) 1 (.slice va (k + 1) vc))
        have HR7 := Lib.hid (HR6.out.keep hne 1 (.slice va (k + 1) vc))
        have HB7 := Lib.hid (HB6.out.setCell (p := ⟨pm, 1, none⟩) hpb (.slice va (k + 1) vc))
        go_roundw
        case rel => exact ⟨k + 1, _, by omega, by go_num, HM7, HO7, HOS7, HJS, HP7, HR7, HB7⟩
        case measure => simp [intOf]; omega
    · have HAL := Lib.hid (pxE_all (ps := ps) (m := k) (by have := HN1.out; omega))
      have HJA := Lib.hid (px_all (ps := ps) (fun j hj => HJ.out j (by have := HN1.out; omega)))
      obtain ⟨ya, yc, hv1, _, _, t1, _⟩ := HO.out.form
      have t2 := HOS.out
      obtain ⟨za, zc, hv2, _, _, t2', _⟩ := t2.form
      injection hv1 with hv1a hv1b hv1c
      injection hv2 with hv2a hv2b hv2c
      subst hv1a hv1c hv2a hv2c
      have hll : (pxE ps k).length ≤ 4194304 := by rw [hlx]; omega
      have JI := implIsValidMachineA ua uc O xa xc (pxE ps k) wr (by omega) hll t1 t2'
      have r0 := HMB.out.c 0 rfl
      have r1 := HMB.out.c 1 rfl
      have q0 := HR.out.c 0 rfl
      have q1' := HR.out.c 1 rfl
      obtain rfl : k = n1 := by omega
      clear t1 t2 t2' hv1b hv2b hll hlt1
      by_cases hmk : MOk O (pxE ps k)
      · rw [decide_eq_true hmk] at JI
        rw [hlx] at JI
        have JI := Lib.hid JI
        have HF := Lib.hid (by rw [HAL.out] at hmk; exact HYES.out HJA.out hmk)
        rw [← HAL.out] at HF
        clear hmk
        go_wp2_with fail
        refine JI.out.mono ?_
        rintro e w6 ⟨rfl, hb⟩
        replace HMB := Lib.hid (HMB.out.later hb)
        replace HO := Lib.hid (HO.out.later hb)
        replace HOS := Lib.hid (HOS.out.later hb)
        replace HR := Lib.hid (HR.out.later hb)
        replace HB := Lib.hid (HB.out.trans (hb.mono HB.out.size))
        clear hb JI r0 r1 q0 q1'
        have r0 := HMB.out.c 0 rfl
        have r1 := HMB.out.c 1 rfl
        have q0 := HR.out.c 0 rfl
        have q1' := HR.out.c 1 rfl
        have f0 := HR.out.f 0
        have f1 := HR.out.f 1
        go_wp2_with fail
        refine bodyPost_ret (v := .tuple #[.agg #[.slice ua O.length uc, .slice xa k xc], .bool true]) (by simp [results, Tryz.results16, go_sem, q0, q1']) rfl ?_
        exact ⟨_, _, by rw [HF.out.1], by rw [HF.out.2.1]; exact row_put (row_put HO.out.row HR.out (by decide) 0 _) (HR.out.put 0 _) (by decide) 1 _, by rw [HF.out.2.2]; exact row_put (row_put HOS.out.row HR.out (by decide) 0 _) (HR.out.put 0 _) (by decide) 1 _, (HB.out.setCell (p := ⟨w.heap.size, 0, none⟩) (Nat.le_refl _) _).setCell (p := ⟨w.heap.size, 1, none⟩) (Nat.le_refl _) _⟩
      · rw [decide_eq_false hmk] at JI
        rw [hlx] at JI
        have JI := Lib.hid JI
        have HF := Lib.hid (HNO.out (fun h => hmk (by rw [HAL.out]; exact h.2)))
        clear hmk
        go_wp2_with fail
        refine JI.out.mono ?_
        rintro e w6 ⟨rfl, hb⟩
        replace HR := Lib.hid (HR.out.later hb)
        replace HB := Lib.hid (HB.out.trans (hb.mono HB.out.size))
        clear hb JI r0 r1 q0 q1'
        have r0 := HR.out.c 0 rfl
        have r1 := HR.out.c 1 rfl
        have f0 := HR.out.f 0
        have f1 := HR.out.f 1
        go_wp2_with fail
        refine bodyPost_ret (v := .tuple #[.agg #[.slice none 0 0, .slice none 0 0], .bool false]) (by simp [results, Tryz.results16, go_sem, r0, r1]) rfl ?_
        exact ⟨_, _, by rw [HF.out.1], by rw [HF.out.2.1]; exact World.ownsRow_nil _ _ _ _, by rw [HF.out.2.2]; exact World.ownsRow_nil _ _ _ _, (HB.out.setCell (p := ⟨w.heap.size, 0, none⟩) (Nat.le_refl _) _).setCell (p := ⟨w.heap.size, 1, none⟩) (Nat.le_refl _) _⟩
end Go.Proofs.YtgjebjoaemeeoaaGreatDoor.kit
namespace Go.Proofs.YtgjebjoaemeeoaaGreatDoor.kit
open Go.ChangeShapes Go.WideShapes Go.ChangeAt Go.RowKit
set_option linter.unusedVariables false

set_option maxRecDepth 100000 in
theorem neqSess (x y : Sess) (W : World) : Sem.run Tryz.prog (binOp .neq 98 (sessV x) (sessV y)) W = .ok (.bool (!decide (x = y))) W := by
  obtain ⟨c, s, d, v⟩ := x
  obtain ⟨c2, s2, d2, v2⟩ := y
  unfold sessV
  simp only
  have u3 := Tryz.underlying3
  have u4 := Tryz.underlying4
  have hS : Tryz.prog.underlying 98 = some (.struct (Tryz.prog.fieldsOf 98)) := by kernel_rfl
  have hp : Tryz.prog.stoodInHeld 98 = false := by kernel_rfl
  have hS2 : Tryz.prog.underlying 96 = some (.struct (Tryz.prog.fieldsOf 96)) := by kernel_rfl
  have hp2 : Tryz.prog.stoodInHeld 96 = false := by kernel_rfl
  rw [run_neq_struct, show (10000 : Nat) = 9999 + 1 from rfl, run_equalIn_agg W 9999 98 _ _ hS hp]
  have he := fun (w : World) (xs ys : Array Value) => run_equalIn_agg w 9997 96 xs ys hS2 hp2
  simp only [Program.fieldsOf, Tryz.underlying98, Tryz.underlying96] at he ⊢
  clear hS hS2 hp hp2
  have k3 := Tryz.isAgg3
  go_simp
  by_cases h1 : c = c2 <;> by_cases h2 : s = s2 <;> by_cases h3 : d = d2 <;> by_cases h4 : v = v2 <;> simp [h1, h2, h3, h4]
theorem eq_takeI {a b : List Int} {k : Nat} (hl : a.length = b.length) (hk : a.length ≤ k) (h : ∀ j, j < k → a.getD j 0 = b.getD j 0) : a = b := eq_take hl hk h
set_option maxRecDepth 100000 in
theorem slEqualI (a1 a2 : Option Addr) (c1 c2 : Nat) (l1 l2 : List Int) (w : World) (h1 : l1.length ≤ 4194304) (h2 : l2.length ≤ 4194304) (ha1 : At w a1 l1) (ha2 : At w a2 l2) :
    Calls Tryz.prog 61 #[.slice a1 l1.length c1, .slice a2 l2.length c2] w fun e w' => e = .returned (.bool (decide (l1 = l2))) ∧ Drawn w w' := by
  have HA1 := Lib.hid ha1
  have HA2 := Lib.hid ha2
  clear ha1 ha2
  by_cases hn : l1.length = l2.length
  · have g1 : (((l1.length : Nat) : Int) != (l2.length : Nat)) = false := by simp [hn]
    have HN := Lib.hid hn
    clear hn
    go_enter Tryz.func61, Tryz.ntmps61
    go_wp2_with fail
    clear g1
    go_loopw [13] (fun i wr => ∃ k : Nat, k ≤ l1.length ∧ i = .int .i64 k ∧ Hid (∀ j, j < k → l1.getD j 0 = l2.getD j 0) ∧ Hid (Drawn w wr)) (fun i _ => l1.length - (intOf i).toNat)
    case atStart => exact ⟨0, Nat.zero_le _, rfl, Lib.hid (fun j h => by omega), Lib.hid (Drawn.refl _)⟩
    case round =>
      obtain ⟨k, hk, rfl, HE, HQ⟩ := hrel
      by_cases hlt : k < l1.length
      · obtain ⟨x, rfl, _, hc1⟩ := HA1.out k hlt
        have hc1 := HQ.out.cell hc1
        obtain ⟨y, rfl, _, hc2⟩ := HA2.out k (by have := HN.out; omega)
        have hc2 := HQ.out.cell hc2
        have hlt2 : k < l2.length := by have := HN.out; omega
        by_cases hz : l1.getD k 0 = l2.getD k 0
        · rw [← hz] at hc2
          have HE2 := Lib.hid (show ∀ j, j < k + 1 → l1.getD j 0 = l2.getD j 0 from fun j hj => by
            by_cases e : j = k
            · rw [e]; exact hz
            · exact HE.out j (by omega))
          clear hz
          generalize l1.getD k 0 = z1 at *
          go_wp2_with fail
          go_quiet (fail)
          go_wp2_with fail
          go_roundw
          case rel => exact ⟨k + 1, by omega, by go_num, HE2, Lib.hid (HQ.out.more _)⟩
          case measure => simp [intOf]; omega
        · have HF := Lib.hid (show l1 ≠ l2 from fun e => hz (by rw [e]))
          have g2 : (l1.getD k 0 != l2.getD k 0) = true := by rw [bne_iff_ne]; exact hz
          clear hz
          generalize l1.getD k 0 = z1 at *
          generalize l2.getD k 0 = z2 at *
          go_wp2_with fail
          go_quiet (fail)
          go_wp2_with fail
          go_ret
          exact ⟨by rw [decide_eq_false (HF.out)]; rfl, HQ.out.more _⟩
      · have HF := Lib.hid (show l1 = l2 from eq_take HN.out (by omega) HE.out)
        go_wp2_with fail
        go_ret
        exact ⟨by rw [decide_eq_true (HF.out)]; rfl, HQ.out⟩
  · have g1 : (((l1.length : Nat) : Int) != (l2.length : Nat)) = true := by simp; omega
    have HF := Lib.hid (show l1 ≠ l2 from fun e => hn (by rw [e]))
    clear hn
    go_enter Tryz.func61, Tryz.ntmps61
    go_wp2_with fail
    go_ret
    exact ⟨by rw [decide_eq_false (HF.out)]; rfl, Drawn.refl _⟩
set_option maxRecDepth 100000 in
set_option maxHeartbeats 2000000 in
theorem slEqualS (a1 a2 : Option Addr) (c1 c2 : Nat) (l1 l2 : List Sess) (w : World) (h1 : l1.length ≤ 4194304) (h2 : l2.length ≤ 4194304) (ha1 : AtS w a1 l1) (ha2 : AtS w a2 l2) :
    Calls Tryz.prog 62 #[.slice a1 l1.length c1, .slice a2 l2.length c2] w fun e w' => e = .returned (.bool (decide (l1 = l2))) ∧ Drawn w w' := by
  have HA1 := Lib.hid ha1
  have HA2 := Lib.hid ha2
  clear ha1 ha2
  by_cases hn : l1.length = l2.length
  · have g1 : (((l1.length : Nat) : Int) != (l2.length : Nat)) = false := by simp [hn]
    have HN := Lib.hid hn
    clear hn
    go_enter Tryz.func62, Tryz.ntmps62
    go_wp2_with fail
    clear g1
    go_loopw [13] (fun i wr => ∃ k : Nat, k ≤ l1.length ∧ i = .int .i64 k ∧ Hid (∀ j, j < k → sg l1 j = sg l2 j) ∧ Hid (Drawn w wr)) (fun i _ => l1.length - (intOf i).toNat)
    case atStart => exact ⟨0, Nat.zero_le _, rfl, Lib.hid (fun j h => by omega), Lib.hid (Drawn.refl _)⟩
    case round =>
      obtain ⟨k, hk, rfl, HE, HQ⟩ := hrel
      by_cases hlt : k < l1.length
      · skip
        obtain ⟨g, o, rfl, hg, hq1⟩ := HA1.out k hlt
        obtain ⟨q, HQ3⟩ : ∃ q, Hid (wr = w.drewN q) := by obtain ⟨q, e⟩ := HQ.out; exact ⟨q, Lib.hid e⟩
        obtain ⟨c0, c1', c2', c3⟩ : SessAt wr g (o + k * 4) (sg l1 k) := by rw [HQ3.out]; exact hq1.drewN q
        obtain ⟨g', o', rfl, hg', hq2⟩ := HA2.out k (by have := HN.out; omega)
        obtain ⟨d0, d1, d2, d3⟩ : SessAt wr g' (o' + k * 4) (sg l2 k) := by rw [HQ3.out]; exact hq2.drewN q
        have hlt2 : k < l2.length := by have := HN.out; omega
        have heq := fun W => neqSess (sg l1 k) (sg l2 k) W
        clear hq1 hq2 HQ3
        unfold sessV at heq
        obtain ⟨x0, x1, x2, x3, hx⟩ : ∃ c s d v, sg l1 k = (c, s, d, v) := ⟨_, _, _, _, rfl⟩
        obtain ⟨y0, y1, y2, y3, hy⟩ : ∃ c s d v, sg l2 k = (c, s, d, v) := ⟨_, _, _, _, rfl⟩
        by_cases hz : sg l1 k = sg l2 k
        · have HE2 := Lib.hid (show ∀ j, j < k + 1 → sg l1 j = sg l2 j from fun j hj => by
            by_cases e : j = k
            · rw [e]; exact hz
            · exact HE.out j (by omega))
          rw [decide_eq_true hz] at heq
          rw [hx] at c0 c1' c2' c3 heq
          rw [hy] at d0 d1 d2 d3 heq
          simp only at c0 c1' c2' c3 d0 d1 d2 d3 heq
          clear hz hx hy
          go_wp2_with fail
          go_quiet (fail)
          go_wp2_with fail
          go_roundw
          case rel => exact ⟨k + 1, by omega, by go_num, HE2, Lib.hid (HQ.out.more _)⟩
          case measure => simp [intOf]; omega
        · have HF := Lib.hid (show l1 ≠ l2 from fun e => hz (by rw [e]))
          rw [decide_eq_false hz] at heq
          rw [hx] at c0 c1' c2' c3 heq
          rw [hy] at d0 d1 d2 d3 heq
          simp only at c0 c1' c2' c3 d0 d1 d2 d3 heq
          clear hz hx hy
          go_wp2_with fail
          go_quiet (fail)
          go_wp2_with fail
          go_ret
          exact ⟨by rw [decide_eq_false (HF.out)]; rfl, HQ.out.more _⟩
      · have HF := Lib.hid (show l1 = l2 from eq_takeS HN.out (by omega) HE.out)
        go_wp2_with fail
        go_ret
        exact ⟨by rw [decide_eq_true (HF.out)]; rfl, HQ.out⟩
  · have g1 : (((l1.length : Nat) : Int) != (l2.length : Nat)) = true := by simp; omega
    have HF := Lib.hid (show l1 ≠ l2 from fun e => hn (by rw [e]))
    clear hn
    go_enter Tryz.func62, Tryz.ntmps62
    go_wp2_with fail
    go_ret
    exact ⟨by rw [decide_eq_false (HF.out)]; rfl, Drawn.refl _⟩
set_option maxRecDepth 100000 in
set_option maxHeartbeats 4000000 in
theorem implEqualMachinesA (a1 : Option Addr) (c1 : Nat) (L1 : List Int) (a2 : Option Addr) (c2 : Nat) (L2 : List Sess) (b1 : Option Addr) (e1 : Nat) (M1 : List Int) (b2 : Option Addr) (e2 : Nat) (M2 : List Sess) (w : World)
    (h1 : L1.length ≤ 4194304) (h2 : L2.length ≤ 4194304) (k1 : M1.length ≤ 4194304) (k2 : M2.length ≤ 4194304) (ha1 : At w a1 L1) (ha2 : AtS w a2 L2) (hb1 : At w b1 M1) (hb2 : AtS w b2 M2) :
    Calls Tryz.prog 27 #[.agg #[.slice a1 L1.length c1, .slice a2 L2.length c2], .agg #[.slice b1 M1.length e1, .slice b2 M2.length e2]] w fun e w' => e = .returned (.bool (decide (L1 = M1 ∧ L2 = M2))) ∧ Below w.heap.size w w' := by
  obtain ⟨WB, hWB⟩ : ∃ W, W = (w.alloc (.cells #[.slice a1 L1.length c1, .slice a2 L2.length c2] 44)).alloc (.cells #[.slice b1 M1.length e1, .slice b2 M2.length e2] 44) := ⟨_, rfl⟩
  have x0 : WB.cell? ⟨w.heap.size, 0, none⟩ = some (.slice a1 L1.length c1) := by rw [hWB]; go_simp
  have x1 : WB.cell? ⟨w.heap.size, 1, none⟩ = some (.slice a2 L2.length c2) := by rw [hWB]; go_simp
  have y0 : WB.cell? ⟨w.heap.size + 1, 0, none⟩ = some (.slice b1 M1.length e1) := by rw [hWB]; go_simp
  have y1 : WB.cell? ⟨w.heap.size + 1, 1, none⟩ = some (.slice b2 M2.length e2) := by rw [hWB]; go_simp
  have HB := Lib.hid (show Below w.heap.size w WB by rw [hWB]; exact ((Below.refl _ _).alloc (Nat.le_refl _) _).alloc (by simp) _)
  have HW := Lib.hid hWB
  clear hWB
  have j1 := slEqualI a1 b1 c1 e1 L1 M1 WB h1 k1 (ha1.later HB.out) (hb1.later HB.out)
  have j2 := fun q => slEqualS a2 b2 c2 e2 L2 M2 (WB.drewN q) h2 k2 (ha2.later (below_drewN HB.out q)) (hb2.later (below_drewN HB.out q))
  clear ha1 hb1 ha2 hb2
  by_cases hq : L1 = M1
  · rw [decide_eq_true hq] at j1
    by_cases hn : L2 = M2
    · have HF := Lib.hid (show decide (L1 = M1 ∧ L2 = M2) = true from decide_eq_true ⟨hq, hn⟩)
      rw [decide_eq_true hn] at j2
      have J1 := Lib.hid j1
      have J2 := fun q => Lib.hid (j2 q)
      clear j1 j2 hq hn
      go_enter Tryz.func27, Tryz.ntmps27
      go_wp2_with fail
      rw [← HW.out]
      refine J1.out.mono ?_
      rintro e w1 ⟨rfl, q, rfl⟩
      go_wp2_with fail
      refine (J2 q).out.mono ?_
      rintro e w2 ⟨rfl, q2, rfl⟩
      go_wp2_with fail
      go_ret
      exact ⟨by rw [HF.out]; rfl, below_drewN HB.out _⟩
    · have HF := Lib.hid (show decide (L1 = M1 ∧ L2 = M2) = false from decide_eq_false (fun h => hn h.2))
      rw [decide_eq_false hn] at j2
      have J1 := Lib.hid j1
      have J2 := fun q => Lib.hid (j2 q)
      clear j1 j2 hq hn
      go_enter Tryz.func27, Tryz.ntmps27
      go_wp2_with fail
      rw [← HW.out]
      refine J1.out.mono ?_
      rintro e w1 ⟨rfl, q, rfl⟩
      go_wp2_with fail
      refine (J2 q).out.mono ?_
      rintro e w2 ⟨rfl, q2, rfl⟩
      go_wp2_with fail
      go_ret
      exact ⟨by rw [HF.out]; rfl, below_drewN HB.out _⟩
  · have HF := Lib.hid (show decide (L1 = M1 ∧ L2 = M2) = false from decide_eq_false (fun h => hq h.1))
    rw [decide_eq_false hq] at j1
    have J1 := Lib.hid j1
    clear j1 j2 hq
    go_enter Tryz.func27, Tryz.ntmps27
    go_wp2_with fail
    rw [← HW.out]
    refine J1.out.mono ?_
    rintro e w1 ⟨rfl, q, rfl⟩
    go_wp2_with fail
    go_ret
    exact ⟨by rw [HF.out]; rfl, below_drewN HB.out _⟩
theorem implEqualMachines (b1 b2 : Nat) (v1 v2 : Value) (L1 : List Int) (L2 : List Sess) (b3 b4 : Nat) (v3 v4 : Value) (M1 : List Int) (M2 : List Sess) (w : World) (h1 : L1.length ≤ 4194304) (h2 : L2.length ≤ 4194304) (o1 : OwnI b1 w v1 L1) (o2 : OwnS b2 w v2 L2)
    (k1 : M1.length ≤ 4194304) (k2 : M2.length ≤ 4194304) (o3 : OwnI b3 w v3 M1) (o4 : OwnS b4 w v4 M2) :
    Calls Tryz.prog 27 #[.agg #[v1, v2], .agg #[v3, v4]] w fun e w' => e = .returned (.bool (decide (L1 = M1 ∧ L2 = M2))) ∧ Below w.heap.size w w' := by
  obtain ⟨a1, c1, rfl, _, _, t1, _⟩ := o1.form
  obtain ⟨a2, c2, rfl, _, _, t2, _⟩ := o2.form
  obtain ⟨a3, c3, rfl, _, _, t3, _⟩ := o3.form
  obtain ⟨a4, c4, rfl, _, _, t4, _⟩ := o4.form
  exact implEqualMachinesA a1 c1 L1 a2 c2 L2 a3 c3 M1 a4 c4 M2 w h1 h2 k1 k2 t1 t2 t3 t4
end Go.Proofs.YtgjebjoaemeeoaaGreatDoor.kit
namespace Go.Proofs.YtgjebjoaemeeoaaGreatDoor.kit
open Go.ChangeShapes Go.WideShapes Go.ChangeAt Go.RowKit
set_option linter.unusedVariables false
set_option maxRecDepth 100000

theorem big_yes (A : Option Addr) (len cap : Nat) (w : World) (h : 1048576 < len) (h2 : len ≤ 9223372036854775807) : Calls Tryz.prog 4 #[.slice A len cap] w fun e w' => e = .returned (.bool true) ∧ w = w' := by
  have hd : decide ((1048576 : Int) < (len : Int)) = true := by simp; omega
  have HD := Lib.hid hd
  clear hd
  go_enter Tryz.func4, Tryz.ntmps4
  go_wp2_with fail
  go_ret
  exact ⟨by rw [← HD.out]; rfl, rfl⟩
theorem big_no (A : Option Addr) (len cap : Nat) (w : World) (h : ¬ 1048576 < len) : Calls Tryz.prog 4 #[.slice A len cap] w fun e w' => e = .returned (.bool false) ∧ w = w' := by
  have hd : decide ((1048576 : Int) < (len : Int)) = false := by simp; omega
  have HD := Lib.hid hd
  clear hd
  go_enter Tryz.func4, Tryz.ntmps4
  go_wp2_with fail
  go_ret
  exact ⟨by rw [← HD.out]; rfl, rfl⟩
end Go.Proofs.YtgjebjoaemeeoaaGreatDoor.kit
namespace Go.Proofs.YtgjebjoaemeeoaaGreatDoor.fnOps
open Go.ChangeShapes Go.WideShapes Go.ChangeAt Go.RowKit
open Go.ChangeMaps (open_string shut_string)
open kit
set_option linter.unusedVariables false
set_option linter.unusedSimpArgs false

theorem undef_no {b : Bool} {P : Prop} (h : some undef = some (Value.bool b)) : P := absurd h (by simp [undef])
theorem mk_size' (l : List UInt8) : (⟨l.toArray⟩ : ByteArray).size = l.length := by simp [ByteArray.size]
theorem implFormatMachineV (b1 b2 : Nat) (v1 v2 : Value) (L1 : List Int) (L2 : List Sess) (w : World) (h1 : L1.length ≤ 4194304) (h2 : L2.length ≤ 4194304) (o1 : ObjV b1 w v1 L1) (o2 : OwnS b2 w v2 L2) (hT : Tab w) :
    Calls Tryz.prog 15 #[.agg #[v1, v2]] w fun e w' => e = .returned (str (fmtM L1 L2)) ∧ Below w.heap.size w w' := by
  obtain ⟨a1, c1, rfl⟩ := o1.shape
  obtain ⟨a2, c2, rfl, _, _, t2, _⟩ := o2.form
  exact implFormatMachineA a1 c1 L1 a2 c2 L2 w h1 h2 o1.at t2 hT
theorem specFormatMachineV (b1 b2 : Nat) (v1 v2 : Value) (L1 : List Int) (L2 : List Sess) (w : World) (h1 : L1.length ≤ 4194304) (h2 : L2.length ≤ 4194304) (o1 : ObjV b1 w v1 L1) (o2 : OwnS b2 w v2 L2) :
    Calls Tryz.prog 24 #[.agg #[v1, v2]] w fun e w' => e = .returned (str (fmtM L1 L2)) ∧ Below w.heap.size w w' := by
  obtain ⟨a1, c1, rfl⟩ := o1.shape
  obtain ⟨a2, c2, rfl, _, _, t2, _⟩ := o2.form
  exact specFormatMachineA a1 c1 L1 a2 c2 L2 w h1 h2 o1.at t2
theorem specIsValidMachineW (b1 b2 : Nat) (v1 v2 : Value) (L1 : List Int) (L2 : List Sess) (w : World) (h1 : L1.length ≤ 4194304) (h2 : L2.length ≤ 4194304) (o1 : ObjV b1 w v1 L1) (o2 : OwnS b2 w v2 L2) :
    Calls Tryz.prog 20 #[.agg #[v1, v2]] w fun e w' => e = .returned (.bool (decide (MOk L1 L2))) ∧ Below w.heap.size w w' := by
  obtain ⟨a1, c1, rfl⟩ := o1.shape
  obtain ⟨a2, c2, rfl, _, _, t2, _⟩ := o2.form
  exact specIsValidMachineA a1 c1 L1 a2 c2 L2 w h1 h2 o1.at t2
theorem implEqualMachinesW (b1 b2 : Nat) (v1 v2 : Value) (L1 : List Int) (L2 : List Sess) (b3 b4 : Nat) (v3 v4 : Value) (M1 : List Int) (M2 : List Sess) (w : World) (h1 : L1.length ≤ 4194304) (h2 : L2.length ≤ 4194304) (o1 : OwnI b1 w v1 L1) (o2 : OwnS b2 w v2 L2)
    (k1 : M1.length ≤ 4194304) (k2 : M2.length ≤ 4194304) (o3 : ObjV b3 w v3 M1) (o4 : OwnS b4 w v4 M2) :
    Calls Tryz.prog 27 #[.agg #[v1, v2], .agg #[v3, v4]] w fun e w' => e = .returned (.bool (decide (L1 = M1 ∧ L2 = M2))) ∧ Below w.heap.size w w' := by
  obtain ⟨a1, c1, rfl, _, _, t1, _⟩ := o1.form
  obtain ⟨a2, c2, rfl, _, _, t2, _⟩ := o2.form
  obtain ⟨a3, c3, rfl⟩ := o3.shape
  obtain ⟨a4, c4, rfl, _, _, t4, _⟩ := o4.form
  exact implEqualMachinesA a1 c1 L1 a2 c2 L2 a3 c3 M1 a4 c4 M2 w h1 h2 k1 k2 t1 t2 o3.at t4
set_option maxRecDepth 100000 in
set_option maxHeartbeats 32000000 in
theorem walk (a0 : Option Addr) (len0 cap0 : Nat) (z0 : List Int) (w : World) (w0 : IsRow .u8 w a0 len0 cap0 z0) (hT : Tab w) (hM : Mx w) :
    Calls Tryz.prog 3 #[.slice a0 len0 cap0] w fun e w' => e = .returned (.bool true) ∧ Below w.heap.size w w' := by
  have hl : len0 ≤ 9223372036854775807 := by
    rcases w0 with ⟨_, h, _⟩ | ⟨_, _, h1, h2, _⟩
    · omega
    · unfold maxLen at h2; omega
  have hcode := Lib.hid (code_of_row w0)
  have HT := Lib.hid (fun W (h : Below w.heap.size w W) => hT.below h)
  have HM := Lib.hid (fun W (h : Below w.heap.size w W) => hM.below h)
  clear w0 hT hM
  by_cases hbig : 1048576 < len0
  · have CB := Lib.hid (big_yes a0 len0 cap0 w hbig hl)
    clear hbig
    go_enter Tryz.func3, Tryz.ntmps3
    go_wp2_with fail
    refine (CB.out).mono ?_
    rintro e w1 ⟨rfl, rfl⟩
    go_wp2_with fail
    go_ret
    exact ⟨rfl, Below.refl _ _⟩
  · have CB := Lib.hid (big_no a0 len0 cap0 w hbig)
    clear hbig
    have C1 := Lib.hid (drawFormatOp a0 len0 cap0 z0 w hcode.out)
    go_enter Tryz.func3, Tryz.ntmps3
    go_wp2_with fail
    refine (CB.out).mono ?_
    rintro e w1 ⟨rfl, rfl⟩
    go_wp2_with fail
    refine (C1.out).mono ?_
    rintro e w2 ⟨c, s, k, o, d, v, rfl, hbk⟩
    have HB := Lib.hid hbk
    clear hbk C1 CB
    have hob := op_back c s k o d v
    have hol := fmtO_len c s k o d v
    have jf := fun W (h : Tab W) => implFormatOp c s k o d v W h
    have js := fun W => specFormatOp c s k o d v W
    have jv := fun W => specIsValidOp c s k o d v W
    obtain ⟨xc, xs, xk, xo, xd, xv, hx⟩ : ∃ a b c' d' e' f', parO (fmtO c s k o d v) = (a, b, c', d', e', f') := ⟨_, _, _, _, _, _, rfl⟩
    have jp := fun W (h1 : Mx W) (h2 : Tab W) => implParseOp ⟨(fmtO c s k o d v).toArray⟩ W (by rw [mk_size']; omega) h1 h2
    simp only at jp
    rw [hob.1, hx] at jp
    simp only at jp
    rw [hx] at hob
    unfold opV at jf js jv jp
    generalize fmtO c s k o d v = fo at *
    generalize okOp c s k o d v = bo at *
    have HOB := Lib.hid hob.2
    have JF := Lib.hid jf
    have JS1 := Lib.hid js
    have JV1 := Lib.hid jv
    have JP := Lib.hid jp
    clear hob jf js jv jp hx
    obtain ⟨p1, hp⟩ : ∃ q, q = w2.heap.size := ⟨_, rfl⟩
    obtain ⟨w3, hW⟩ : ∃ q, q = w2.alloc (.cells #[.int .i64 c, .int .i64 s, .int .i64 k, .int .i64 o, .int .i64 d, .int .i64 v] 25) := ⟨_, rfl⟩
    have hbk : Below w2.heap.size w2 w3 := by rw [hW]; exact (Below.refl _ _).alloc (Nat.le_refl _) _
    have XO := Lib.hid (show BoxC w3 p1 25 #[.int .i64 c, .int .i64 s, .int .i64 k, .int .i64 o, .int .i64 d, .int .i64 v] by rw [hW, hp]; exact BoxC.new _ _ _)
    have HW := Lib.hid hW
    have HP := Lib.hid hp
    replace HB := Lib.hid (HB.out.trans (hbk.mono HB.out.size))
    clear hbk hW hp
    go_upto_region 4 with (fail)
    rw [← HW.out, ← HP.out]
    clear HW HP
    have j := JF.out w3 (HT.out _ HB.out)
    have J := Lib.hid j
    clear j
    have q0_0 := XO.out.c 0 rfl
    have q0_1 := XO.out.c 1 rfl
    have q0_2 := XO.out.c 2 rfl
    have q0_3 := XO.out.c 3 rfl
    have q0_4 := XO.out.c 4 rfl
    have q0_5 := XO.out.c 5 rfl
    go_wp2_with fail
    refine (J.out).mono ?_
    rintro e w4 ⟨rfl, hbk⟩
    clear J
    clear q0_0 q0_1 q0_2 q0_3 q0_4 q0_5
    replace XO := Lib.hid (XO.out.later hbk)
    replace HB := Lib.hid (HB.out.trans (hbk.mono HB.out.size))
    clear hbk JF
    have j := JP.out w4 (HM.out _ HB.out) (HT.out _ HB.out)
    have J := Lib.hid j
    clear j
    go_wp2_with fail
    refine (J.out).mono ?_
    rintro e w5 ⟨rfl, hbk⟩
    clear J
    replace XO := Lib.hid (XO.out.later hbk)
    replace HB := Lib.hid (HB.out.trans (hbk.mono HB.out.size))
    clear hbk JP
    obtain ⟨p2, hp⟩ : ∃ q, q = w5.heap.size := ⟨_, rfl⟩
    obtain ⟨w6, hW⟩ : ∃ q, q = w5.alloc (.cells #[.int .i64 xc, .int .i64 xs, .int .i64 xk, .int .i64 xo, .int .i64 xd, .int .i64 xv] 25) := ⟨_, rfl⟩
    have hbk : Below w5.heap.size w5 w6 := by rw [hW]; exact (Below.refl _ _).alloc (Nat.le_refl _) _
    have XX := Lib.hid (show BoxC w6 p2 25 #[.int .i64 xc, .int .i64 xs, .int .i64 xk, .int .i64 xo, .int .i64 xd, .int .i64 xv] by rw [hW, hp]; exact BoxC.new _ _ _)
    have HW := Lib.hid hW
    have HP := Lib.hid hp
    replace XO := Lib.hid (XO.out.later hbk)
    replace HB := Lib.hid (HB.out.trans (hbk.mono HB.out.size))
    clear hbk hW hp
    go_upto_region 6 with (fail)
    rw [← HW.out, ← HP.out]
    clear HW HP
    have j := drawFormatLog a0 len0 cap0 z0 w6 (hcode.out.below HB.out)
    have J := Lib.hid j
    clear j
    go_wp2_with fail
    refine (J.out).mono ?_
    rintro e w7 ⟨v2, L, rfl, hlL, ho, hbk⟩
    clear J
    replace XO := Lib.hid (XO.out.later hbk)
    replace XX := Lib.hid (XX.out.later hbk)
    replace HB := Lib.hid (HB.out.trans (hbk.mono HB.out.size))
    obtain ⟨ya, yc, rfl⟩ := ho.shape
    have HL := Lib.hid ho
    clear hbk ho
    have hlb := log_back L
    have hll := logL_len L
    have jp := fun W (h1 : Tab W) (h2 : Mx W) => implParseLog ⟨(fmtL L).toArray⟩ W (by rw [mk_size']; omega) h1 h2
    simp only at jp
    rw [hlb.1] at jp
    have hyl := parLl_len (fmtL L)
    have jf := fun W h (ht : Tab W) => implFormatLog _ _ L W (by omega) (show OwnE w6.heap.size W (.slice ya L.length yc) L from h) ht
    have js := fun W h => specFormatLog _ _ L W (by omega) (show OwnE w6.heap.size W (.slice ya L.length yc) L from h)
    have jv := fun W h => specIsLog _ _ L W (by omega) (show OwnE w6.heap.size W (.slice ya L.length yc) L from h)
    have hself := isPre_same L
    have HLB := Lib.hid (show decide (LOk L) = true → parLl (fmtL L) = L from fun h => hlb.2 (of_decide_eq_true h))
    generalize parLl (fmtL L) = Y at *
    generalize fmtL L = fl at *
    generalize decide (LOk L) = bl at *
    have JF := Lib.hid jf
    have JS2 := Lib.hid js
    have JV2 := Lib.hid jv
    have JP := Lib.hid jp
    clear hlb jf js jv jp
    have j := JF.out w7 HL.out (HT.out _ HB.out)
    have J := Lib.hid j
    clear j
    go_wp2_with fail
    refine (J.out).mono ?_
    rintro e w8 ⟨rfl, hbk⟩
    clear J
    replace XO := Lib.hid (XO.out.later hbk)
    replace XX := Lib.hid (XX.out.later hbk)
    replace HL := Lib.hid (HL.out.later hbk)
    replace HB := Lib.hid (HB.out.trans (hbk.mono HB.out.size))
    clear hbk JF
    have j := JP.out w8 (HT.out _ HB.out) (HM.out _ HB.out)
    have J := Lib.hid j
    clear j
    go_wp2_with fail
    refine (J.out).mono ?_
    rintro e w9 ⟨v3, rfl, ho, hbk⟩
    clear J
    replace XO := Lib.hid (XO.out.later hbk)
    replace XX := Lib.hid (XX.out.later hbk)
    replace HL := Lib.hid (HL.out.later hbk)
    replace HB := Lib.hid (HB.out.trans (hbk.mono HB.out.size))
    obtain ⟨ta, tc, rfl⟩ := ho.shape
    have HY := Lib.hid ho
    clear hbk ho JP
    have j := drawFormatConfig a0 len0 cap0 z0 w9 (hcode.out.below HB.out)
    have J := Lib.hid j
    clear j
    go_wp2_with fail
    refine (J.out).mono ?_
    rintro e w10 ⟨x, y, u1, u2, R1, R2, rfl, hr1, hr2, ho1, ho2, hbk⟩
    clear J
    replace XO := Lib.hid (XO.out.later hbk)
    replace XX := Lib.hid (XX.out.later hbk)
    replace HL := Lib.hid (HL.out.later hbk)
    replace HY := Lib.hid (HY.out.later hbk)
    replace HB := Lib.hid (HB.out.trans (hbk.mono HB.out.size))
    obtain ⟨ra, rc, rfl⟩ := ho1.shape
    obtain ⟨sa, sc, rfl⟩ := ho2.shape
    have HC1 := Lib.hid ho1
    have HC2 := Lib.hid ho2
    clear hbk ho1 ho2
    have hcb := conf_all x y R1 R2
    have hcl := fmtC_len x y R1 R2
    have jp := fun W (h1 : Tab W) (h2 : Mx W) => implParseConfig ⟨(fmtC x y R1 R2).toArray⟩ W (by rw [mk_size']; omega) h1 h2
    simp only at jp
    rw [hcb.1] at jp
    have jf := fun W h1 h2 (ht : Tab W) => implFormatConfig x y _ _ _ _ R1 R2 W (by omega) (by omega) (show OwnI w9.heap.size W (.slice ra R1.length rc) R1 from h1) (show OwnI w9.heap.size W (.slice sa R2.length sc) R2 from h2) ht
    have js := fun W h1 h2 => specFormatConfig x y _ _ _ _ R1 R2 W (by omega) (by omega) (show OwnI w9.heap.size W (.slice ra R1.length rc) R1 from h1) (show OwnI w9.heap.size W (.slice sa R2.length sc) R2 from h2)
    have jv := fun W h1 h2 => specIsValidConfig x y _ _ _ _ R1 R2 W (by omega) (by omega) (show OwnI w9.heap.size W (.slice ra R1.length rc) R1 from h1) (show OwnI w9.heap.size W (.slice sa R2.length sc) R2 from h2)
    have hzl1 := parC1_len (fmtC x y R1 R2)
    have hzl2 := parC2_len (fmtC x y R1 R2)
    have HCB := Lib.hid hcb.2
    generalize parCx (fmtC x y R1 R2) = zx at *
    generalize parCy (fmtC x y R1 R2) = zy at *
    generalize parC1 (fmtC x y R1 R2) = Z1 at *
    generalize parC2 (fmtC x y R1 R2) = Z2 at *
    generalize fmtC x y R1 R2 = fc at *
    generalize cfgOk x y R1 R2 = bc at *
    have JF := Lib.hid jf
    have JS3 := Lib.hid js
    have JV3 := Lib.hid jv
    have JP := Lib.hid jp
    clear hcb jf js jv jp
    obtain ⟨p3, hp⟩ : ∃ q, q = w10.heap.size := ⟨_, rfl⟩
    obtain ⟨w11, hW⟩ : ∃ q, q = w10.alloc (.cells #[.int .i64 x, .int .i64 y, .slice ra R1.length rc, .slice sa R2.length sc] 37) := ⟨_, rfl⟩
    have hbk : Below w10.heap.size w10 w11 := by rw [hW]; exact (Below.refl _ _).alloc (Nat.le_refl _) _
    have XC := Lib.hid (show BoxC w11 p3 37 #[.int .i64 x, .int .i64 y, .slice ra R1.length rc, .slice sa R2.length sc] by rw [hW, hp]; exact BoxC.new _ _ _)
    have HW := Lib.hid hW
    have HP := Lib.hid hp
    replace XO := Lib.hid (XO.out.later hbk)
    replace XX := Lib.hid (XX.out.later hbk)
    replace HL := Lib.hid (HL.out.later hbk)
    replace HY := Lib.hid (HY.out.later hbk)
    replace HC1 := Lib.hid (HC1.out.later hbk)
    replace HC2 := Lib.hid (HC2.out.later hbk)
    replace HB := Lib.hid (HB.out.trans (hbk.mono HB.out.size))
    clear hbk hW hp
    go_upto_region 10 with (fail)
    rw [← HW.out, ← HP.out]
    clear HW HP
    have j := JF.out w11 HC1.out HC2.out (HT.out _ HB.out)
    have J := Lib.hid j
    clear j
    have q0_0 := XC.out.c 0 rfl
    have q0_1 := XC.out.c 1 rfl
    have q0_2 := XC.out.c 2 rfl
    have q0_3 := XC.out.c 3 rfl
    go_wp2_with fail
    refine (J.out).mono ?_
    rintro e w12 ⟨rfl, hbk⟩
    clear J
    clear q0_0 q0_1 q0_2 q0_3
    replace XO := Lib.hid (XO.out.later hbk)
    replace XX := Lib.hid (XX.out.later hbk)
    replace HL := Lib.hid (HL.out.later hbk)
    replace HY := Lib.hid (HY.out.later hbk)
    replace HC1 := Lib.hid (HC1.out.later hbk)
    replace HC2 := Lib.hid (HC2.out.later hbk)
    replace XC := Lib.hid (XC.out.later hbk)
    replace HB := Lib.hid (HB.out.trans (hbk.mono HB.out.size))
    clear hbk JF
    have j := JP.out w12 (HT.out _ HB.out) (HM.out _ HB.out)
    replace j := j.mono fun e w' h => by obtain ⟨u1, u2, h1, h2, h3, h4, _⟩ := h; exact (show ∃ u1 u2, _ ∧ _ ∧ _ ∧ _ from ⟨u1, u2, h1, h2, h3, h4⟩)
    have J := Lib.hid j
    clear j
    go_wp2_with fail
    refine (J.out).mono ?_
    rintro e w13 ⟨v5, v6, rfl, ho1, ho2, hbk⟩
    clear J
    replace XO := Lib.hid (XO.out.later hbk)
    replace XX := Lib.hid (XX.out.later hbk)
    replace HL := Lib.hid (HL.out.later hbk)
    replace HY := Lib.hid (HY.out.later hbk)
    replace HC1 := Lib.hid (HC1.out.later hbk)
    replace HC2 := Lib.hid (HC2.out.later hbk)
    replace XC := Lib.hid (XC.out.later hbk)
    replace HB := Lib.hid (HB.out.trans (hbk.mono HB.out.size))
    obtain ⟨ka, kc, rfl⟩ := ho1.shape
    obtain ⟨la, lc, rfl⟩ := ho2.shape
    have HZ1 := Lib.hid ho1
    have HZ2 := Lib.hid ho2
    clear hbk ho1 ho2 JP
    obtain ⟨p4, hp⟩ : ∃ q, q = w13.heap.size := ⟨_, rfl⟩
    obtain ⟨w14, hW⟩ : ∃ q, q = w13.alloc (.cells #[.int .i64 zx, .int .i64 zy, .slice ka Z1.length kc, .slice la Z2.length lc] 37) := ⟨_, rfl⟩
    have hbk : Below w13.heap.size w13 w14 := by rw [hW]; exact (Below.refl _ _).alloc (Nat.le_refl _) _
    have XZ := Lib.hid (show BoxC w14 p4 37 #[.int .i64 zx, .int .i64 zy, .slice ka Z1.length kc, .slice la Z2.length lc] by rw [hW, hp]; exact BoxC.new _ _ _)
    have HW := Lib.hid hW
    have HP := Lib.hid hp
    replace XO := Lib.hid (XO.out.later hbk)
    replace XX := Lib.hid (XX.out.later hbk)
    replace HL := Lib.hid (HL.out.later hbk)
    replace HY := Lib.hid (HY.out.later hbk)
    replace HC1 := Lib.hid (HC1.out.later hbk)
    replace HC2 := Lib.hid (HC2.out.later hbk)
    replace XC := Lib.hid (XC.out.later hbk)
    replace HZ1 := Lib.hid (HZ1.out.later hbk)
    replace HZ2 := Lib.hid (HZ2.out.later hbk)
    replace HB := Lib.hid (HB.out.trans (hbk.mono HB.out.size))
    clear hbk hW hp
    go_upto_region 12 with (fail)
    rw [← HW.out, ← HP.out]
    clear HW HP
    have j := drawFormatMachine a0 len0 cap0 z0 w14 (hcode.out.below HB.out)
    have J := Lib.hid j
    clear j
    go_wp2_with fail
    refine (J.out).mono ?_
    rintro e w15 ⟨u1, u2, M1, M2, rfl, hm1, hm2, ho1, ho2, hbk⟩
    clear J
    replace XO := Lib.hid (XO.out.later hbk)
    replace XX := Lib.hid (XX.out.later hbk)
    replace HL := Lib.hid (HL.out.later hbk)
    replace HY := Lib.hid (HY.out.later hbk)
    replace HC1 := Lib.hid (HC1.out.later hbk)
    replace HC2 := Lib.hid (HC2.out.later hbk)
    replace XC := Lib.hid (XC.out.later hbk)
    replace HZ1 := Lib.hid (HZ1.out.later hbk)
    replace HZ2 := Lib.hid (HZ2.out.later hbk)
    replace XZ := Lib.hid (XZ.out.later hbk)
    replace HB := Lib.hid (HB.out.trans (hbk.mono HB.out.size))
    obtain ⟨ma, mc, rfl⟩ := ho1.shape
    obtain ⟨na, nc, rfl⟩ := ho2.shape
    have HM1 := Lib.hid ho1
    have HM2 := Lib.hid ho2
    clear hbk ho1 ho2
    have hmb := mach_all M1 M2
    have hml := fmtM_short M1 M2
    have jp := fun W (h1 : Tab W) (h2 : Mx W) => implParseMachine ⟨(fmtM M1 M2).toArray⟩ W (by rw [mk_size']; omega) h1 h2
    simp only at jp
    rw [hmb.1] at jp
    have jf := fun W h1 h2 (ht : Tab W) => implFormatMachineV _ _ _ _ M1 M2 W (by omega) (by omega) (show ObjV w14.heap.size W (.slice ma M1.length mc) M1 from h1) (show OwnS w14.heap.size W (.slice na M2.length nc) M2 from h2) ht
    have js := fun W h1 h2 => specFormatMachineV _ _ _ _ M1 M2 W (by omega) (by omega) (show ObjV w14.heap.size W (.slice ma M1.length mc) M1 from h1) (show OwnS w14.heap.size W (.slice na M2.length nc) M2 from h2)
    have jv := fun W h1 h2 => specIsValidMachineW _ _ _ _ M1 M2 W (by omega) (by omega) (show ObjV w14.heap.size W (.slice ma M1.length mc) M1 from h1) (show OwnS w14.heap.size W (.slice na M2.length nc) M2 from h2)
    have hwl1 := parMO_len (fmtM M1 M2)
    have hwl2 := parMX_len (fmtM M1 M2)
    have HMB := Lib.hid hmb.2
    generalize parMO (fmtM M1 M2) = N1 at *
    generalize parMX (fmtM M1 M2) = N2 at *
    generalize fmtM M1 M2 = fm at *
    generalize decide (MOk M1 M2) = bm at *
    have JF := Lib.hid jf
    have JS4 := Lib.hid js
    have JV4 := Lib.hid jv
    have JP := Lib.hid jp
    clear hmb jf js jv jp
    obtain ⟨p5, hp⟩ : ∃ q, q = w15.heap.size := ⟨_, rfl⟩
    obtain ⟨w16, hW⟩ : ∃ q, q = w15.alloc (.cells #[.slice ma M1.length mc, .slice na M2.length nc] 44) := ⟨_, rfl⟩
    have hbk : Below w15.heap.size w15 w16 := by rw [hW]; exact (Below.refl _ _).alloc (Nat.le_refl _) _
    have XM := Lib.hid (show BoxC w16 p5 44 #[.slice ma M1.length mc, .slice na M2.length nc] by rw [hW, hp]; exact BoxC.new _ _ _)
    have HW := Lib.hid hW
    have HP := Lib.hid hp
    replace XO := Lib.hid (XO.out.later hbk)
    replace XX := Lib.hid (XX.out.later hbk)
    replace HL := Lib.hid (HL.out.later hbk)
    replace HY := Lib.hid (HY.out.later hbk)
    replace HC1 := Lib.hid (HC1.out.later hbk)
    replace HC2 := Lib.hid (HC2.out.later hbk)
    replace XC := Lib.hid (XC.out.later hbk)
    replace HZ1 := Lib.hid (HZ1.out.later hbk)
    replace HZ2 := Lib.hid (HZ2.out.later hbk)
    replace XZ := Lib.hid (XZ.out.later hbk)
    replace HM1 := Lib.hid (HM1.out.later hbk)
    replace HM2 := Lib.hid (HM2.out.later hbk)
    replace HB := Lib.hid (HB.out.trans (hbk.mono HB.out.size))
    clear hbk hW hp
    go_upto_region 13 with (fail)
    rw [← HW.out, ← HP.out]
    clear HW HP
    have j := JF.out w16 HM1.out HM2.out (HT.out _ HB.out)
    have J := Lib.hid j
    clear j
    have q0_0 := XM.out.c 0 rfl
    have q0_1 := XM.out.c 1 rfl
    go_wp2_with fail
    refine (J.out).mono ?_
    rintro e w17 ⟨rfl, hbk⟩
    clear J
    clear q0_0 q0_1
    replace XO := Lib.hid (XO.out.later hbk)
    replace XX := Lib.hid (XX.out.later hbk)
    replace HL := Lib.hid (HL.out.later hbk)
    replace HY := Lib.hid (HY.out.later hbk)
    replace HC1 := Lib.hid (HC1.out.later hbk)
    replace HC2 := Lib.hid (HC2.out.later hbk)
    replace XC := Lib.hid (XC.out.later hbk)
    replace HZ1 := Lib.hid (HZ1.out.later hbk)
    replace HZ2 := Lib.hid (HZ2.out.later hbk)
    replace XZ := Lib.hid (XZ.out.later hbk)
    replace HM1 := Lib.hid (HM1.out.later hbk)
    replace HM2 := Lib.hid (HM2.out.later hbk)
    replace XM := Lib.hid (XM.out.later hbk)
    replace HB := Lib.hid (HB.out.trans (hbk.mono HB.out.size))
    clear hbk JF
    have j := JP.out w17 (HT.out _ HB.out) (HM.out _ HB.out)
    have J := Lib.hid j
    clear j
    go_wp2_with fail
    refine (J.out).mono ?_
    rintro e w18 ⟨v7, v8, rfl, ho1, ho2, hbk⟩
    clear J
    replace XO := Lib.hid (XO.out.later hbk)
    replace XX := Lib.hid (XX.out.later hbk)
    replace HL := Lib.hid (HL.out.later hbk)
    replace HY := Lib.hid (HY.out.later hbk)
    replace HC1 := Lib.hid (HC1.out.later hbk)
    replace HC2 := Lib.hid (HC2.out.later hbk)
    replace XC := Lib.hid (XC.out.later hbk)
    replace HZ1 := Lib.hid (HZ1.out.later hbk)
    replace HZ2 := Lib.hid (HZ2.out.later hbk)
    replace XZ := Lib.hid (XZ.out.later hbk)
    replace HM1 := Lib.hid (HM1.out.later hbk)
    replace HM2 := Lib.hid (HM2.out.later hbk)
    replace XM := Lib.hid (XM.out.later hbk)
    replace HB := Lib.hid (HB.out.trans (hbk.mono HB.out.size))
    obtain ⟨ga, gc, rfl⟩ := ho1.shape
    obtain ⟨ha, hc, rfl⟩ := ho2.shape
    have HN1 := Lib.hid ho1
    have HN2 := Lib.hid ho2
    clear hbk ho1 ho2 JP
    obtain ⟨p6, hp⟩ : ∃ q, q = w18.heap.size := ⟨_, rfl⟩
    obtain ⟨w19, hW⟩ : ∃ q, q = w18.alloc (.cells #[.slice ga N1.length gc, .slice ha N2.length hc] 44) := ⟨_, rfl⟩
    have hbk : Below w18.heap.size w18 w19 := by rw [hW]; exact (Below.refl _ _).alloc (Nat.le_refl _) _
    have XN := Lib.hid (show BoxC w19 p6 44 #[.slice ga N1.length gc, .slice ha N2.length hc] by rw [hW, hp]; exact BoxC.new _ _ _)
    have HW := Lib.hid hW
    have HP := Lib.hid hp
    replace XO := Lib.hid (XO.out.later hbk)
    replace XX := Lib.hid (XX.out.later hbk)
    replace HL := Lib.hid (HL.out.later hbk)
    replace HY := Lib.hid (HY.out.later hbk)
    replace HC1 := Lib.hid (HC1.out.later hbk)
    replace HC2 := Lib.hid (HC2.out.later hbk)
    replace XC := Lib.hid (XC.out.later hbk)
    replace HZ1 := Lib.hid (HZ1.out.later hbk)
    replace HZ2 := Lib.hid (HZ2.out.later hbk)
    replace XZ := Lib.hid (XZ.out.later hbk)
    replace HM1 := Lib.hid (HM1.out.later hbk)
    replace HM2 := Lib.hid (HM2.out.later hbk)
    replace XM := Lib.hid (XM.out.later hbk)
    replace HN1 := Lib.hid (HN1.out.later hbk)
    replace HN2 := Lib.hid (HN2.out.later hbk)
    replace HB := Lib.hid (HB.out.trans (hbk.mono HB.out.size))
    clear hbk hW hp
    go_upto_region 15 with (fail)
    rw [← HW.out, ← HP.out]
    clear HW HP
    have t1 : (bo != bo) = false := by simp
    have t2 : (bl != bl) = false := by simp
    have t3 : (bc != bc) = false := by simp
    have t4 : (bm != bm) = false := by simp
    have j := JV1.out w19
    have J := Lib.hid j
    clear j
    have q0_0 := XO.out.c 0 rfl
    have q0_1 := XO.out.c 1 rfl
    have q0_2 := XO.out.c 2 rfl
    have q0_3 := XO.out.c 3 rfl
    have q0_4 := XO.out.c 4 rfl
    have q0_5 := XO.out.c 5 rfl
    go_wp2_with fail
    refine (J.out).mono ?_
    rintro e w20 ⟨rfl, hbk⟩
    clear J
    clear q0_0 q0_1 q0_2 q0_3 q0_4 q0_5
    replace XO := Lib.hid (XO.out.later hbk)
    replace XX := Lib.hid (XX.out.later hbk)
    replace HL := Lib.hid (HL.out.later hbk)
    replace HY := Lib.hid (HY.out.later hbk)
    replace HC1 := Lib.hid (HC1.out.later hbk)
    replace HC2 := Lib.hid (HC2.out.later hbk)
    replace XC := Lib.hid (XC.out.later hbk)
    replace HZ1 := Lib.hid (HZ1.out.later hbk)
    replace HZ2 := Lib.hid (HZ2.out.later hbk)
    replace XZ := Lib.hid (XZ.out.later hbk)
    replace HM1 := Lib.hid (HM1.out.later hbk)
    replace HM2 := Lib.hid (HM2.out.later hbk)
    replace XM := Lib.hid (XM.out.later hbk)
    replace HN1 := Lib.hid (HN1.out.later hbk)
    replace HN2 := Lib.hid (HN2.out.later hbk)
    replace XN := Lib.hid (XN.out.later hbk)
    replace HB := Lib.hid (HB.out.trans (hbk.mono HB.out.size))
    clear hbk JV1
    have j := JV2.out w20 HL.out
    have J := Lib.hid j
    clear j
    go_wp2_with fail
    refine (J.out).mono ?_
    rintro e w21 ⟨rfl, hbk⟩
    clear J
    replace XO := Lib.hid (XO.out.later hbk)
    replace XX := Lib.hid (XX.out.later hbk)
    replace HL := Lib.hid (HL.out.later hbk)
    replace HY := Lib.hid (HY.out.later hbk)
    replace HC1 := Lib.hid (HC1.out.later hbk)
    replace HC2 := Lib.hid (HC2.out.later hbk)
    replace XC := Lib.hid (XC.out.later hbk)
    replace HZ1 := Lib.hid (HZ1.out.later hbk)
    replace HZ2 := Lib.hid (HZ2.out.later hbk)
    replace XZ := Lib.hid (XZ.out.later hbk)
    replace HM1 := Lib.hid (HM1.out.later hbk)
    replace HM2 := Lib.hid (HM2.out.later hbk)
    replace XM := Lib.hid (XM.out.later hbk)
    replace HN1 := Lib.hid (HN1.out.later hbk)
    replace HN2 := Lib.hid (HN2.out.later hbk)
    replace XN := Lib.hid (XN.out.later hbk)
    replace HB := Lib.hid (HB.out.trans (hbk.mono HB.out.size))
    clear hbk JV2
    have j := JV3.out w21 HC1.out HC2.out
    have J := Lib.hid j
    clear j
    have q0_0 := XC.out.c 0 rfl
    have q0_1 := XC.out.c 1 rfl
    have q0_2 := XC.out.c 2 rfl
    have q0_3 := XC.out.c 3 rfl
    go_wp2_with fail
    refine (J.out).mono ?_
    rintro e w22 ⟨rfl, hbk⟩
    clear J
    clear q0_0 q0_1 q0_2 q0_3
    replace XO := Lib.hid (XO.out.later hbk)
    replace XX := Lib.hid (XX.out.later hbk)
    replace HL := Lib.hid (HL.out.later hbk)
    replace HY := Lib.hid (HY.out.later hbk)
    replace HC1 := Lib.hid (HC1.out.later hbk)
    replace HC2 := Lib.hid (HC2.out.later hbk)
    replace XC := Lib.hid (XC.out.later hbk)
    replace HZ1 := Lib.hid (HZ1.out.later hbk)
    replace HZ2 := Lib.hid (HZ2.out.later hbk)
    replace XZ := Lib.hid (XZ.out.later hbk)
    replace HM1 := Lib.hid (HM1.out.later hbk)
    replace HM2 := Lib.hid (HM2.out.later hbk)
    replace XM := Lib.hid (XM.out.later hbk)
    replace HN1 := Lib.hid (HN1.out.later hbk)
    replace HN2 := Lib.hid (HN2.out.later hbk)
    replace XN := Lib.hid (XN.out.later hbk)
    replace HB := Lib.hid (HB.out.trans (hbk.mono HB.out.size))
    clear hbk JV3
    have j := JV4.out w22 HM1.out HM2.out
    have J := Lib.hid j
    clear j
    have q0_0 := XM.out.c 0 rfl
    have q0_1 := XM.out.c 1 rfl
    go_wp2_with fail
    refine (J.out).mono ?_
    rintro e w23 ⟨rfl, hbk⟩
    clear J
    clear q0_0 q0_1
    replace XO := Lib.hid (XO.out.later hbk)
    replace XX := Lib.hid (XX.out.later hbk)
    replace HL := Lib.hid (HL.out.later hbk)
    replace HY := Lib.hid (HY.out.later hbk)
    replace HC1 := Lib.hid (HC1.out.later hbk)
    replace HC2 := Lib.hid (HC2.out.later hbk)
    replace XC := Lib.hid (XC.out.later hbk)
    replace HZ1 := Lib.hid (HZ1.out.later hbk)
    replace HZ2 := Lib.hid (HZ2.out.later hbk)
    replace XZ := Lib.hid (XZ.out.later hbk)
    replace HM1 := Lib.hid (HM1.out.later hbk)
    replace HM2 := Lib.hid (HM2.out.later hbk)
    replace XM := Lib.hid (XM.out.later hbk)
    replace HN1 := Lib.hid (HN1.out.later hbk)
    replace HN2 := Lib.hid (HN2.out.later hbk)
    replace XN := Lib.hid (XN.out.later hbk)
    replace HB := Lib.hid (HB.out.trans (hbk.mono HB.out.size))
    clear hbk JV4
    clear t1 t2 t3 t4
    have s1 : (fo == fo) = true := by simp
    have s2 : (fl == fl) = true := by simp
    have s3 : (fc == fc) = true := by simp
    have s4 : (fm == fm) = true := by simp
    have j := JS1.out w23
    have J := Lib.hid j
    clear j
    have q0_0 := XO.out.c 0 rfl
    have q0_1 := XO.out.c 1 rfl
    have q0_2 := XO.out.c 2 rfl
    have q0_3 := XO.out.c 3 rfl
    have q0_4 := XO.out.c 4 rfl
    have q0_5 := XO.out.c 5 rfl
    go_wp2_with fail
    refine (J.out).mono ?_
    rintro e w24 ⟨rfl, hbk⟩
    clear J
    clear q0_0 q0_1 q0_2 q0_3 q0_4 q0_5
    replace XO := Lib.hid (XO.out.later hbk)
    replace XX := Lib.hid (XX.out.later hbk)
    replace HL := Lib.hid (HL.out.later hbk)
    replace HY := Lib.hid (HY.out.later hbk)
    replace HC1 := Lib.hid (HC1.out.later hbk)
    replace HC2 := Lib.hid (HC2.out.later hbk)
    replace XC := Lib.hid (XC.out.later hbk)
    replace HZ1 := Lib.hid (HZ1.out.later hbk)
    replace HZ2 := Lib.hid (HZ2.out.later hbk)
    replace XZ := Lib.hid (XZ.out.later hbk)
    replace HM1 := Lib.hid (HM1.out.later hbk)
    replace HM2 := Lib.hid (HM2.out.later hbk)
    replace XM := Lib.hid (XM.out.later hbk)
    replace HN1 := Lib.hid (HN1.out.later hbk)
    replace HN2 := Lib.hid (HN2.out.later hbk)
    replace XN := Lib.hid (XN.out.later hbk)
    replace HB := Lib.hid (HB.out.trans (hbk.mono HB.out.size))
    clear hbk JS1
    have j := JS2.out w24 HL.out
    have J := Lib.hid j
    clear j
    go_wp2_with fail
    refine (J.out).mono ?_
    rintro e w25 ⟨rfl, hbk⟩
    clear J
    replace XO := Lib.hid (XO.out.later hbk)
    replace XX := Lib.hid (XX.out.later hbk)
    replace HL := Lib.hid (HL.out.later hbk)
    replace HY := Lib.hid (HY.out.later hbk)
    replace HC1 := Lib.hid (HC1.out.later hbk)
    replace HC2 := Lib.hid (HC2.out.later hbk)
    replace XC := Lib.hid (XC.out.later hbk)
    replace HZ1 := Lib.hid (HZ1.out.later hbk)
    replace HZ2 := Lib.hid (HZ2.out.later hbk)
    replace XZ := Lib.hid (XZ.out.later hbk)
    replace HM1 := Lib.hid (HM1.out.later hbk)
    replace HM2 := Lib.hid (HM2.out.later hbk)
    replace XM := Lib.hid (XM.out.later hbk)
    replace HN1 := Lib.hid (HN1.out.later hbk)
    replace HN2 := Lib.hid (HN2.out.later hbk)
    replace XN := Lib.hid (XN.out.later hbk)
    replace HB := Lib.hid (HB.out.trans (hbk.mono HB.out.size))
    clear hbk JS2
    have j := JS3.out w25 HC1.out HC2.out
    have J := Lib.hid j
    clear j
    have q0_0 := XC.out.c 0 rfl
    have q0_1 := XC.out.c 1 rfl
    have q0_2 := XC.out.c 2 rfl
    have q0_3 := XC.out.c 3 rfl
    go_wp2_with fail
    refine (J.out).mono ?_
    rintro e w26 ⟨rfl, hbk⟩
    clear J
    clear q0_0 q0_1 q0_2 q0_3
    replace XO := Lib.hid (XO.out.later hbk)
    replace XX := Lib.hid (XX.out.later hbk)
    replace HL := Lib.hid (HL.out.later hbk)
    replace HY := Lib.hid (HY.out.later hbk)
    replace HC1 := Lib.hid (HC1.out.later hbk)
    replace HC2 := Lib.hid (HC2.out.later hbk)
    replace XC := Lib.hid (XC.out.later hbk)
    replace HZ1 := Lib.hid (HZ1.out.later hbk)
    replace HZ2 := Lib.hid (HZ2.out.later hbk)
    replace XZ := Lib.hid (XZ.out.later hbk)
    replace HM1 := Lib.hid (HM1.out.later hbk)
    replace HM2 := Lib.hid (HM2.out.later hbk)
    replace XM := Lib.hid (XM.out.later hbk)
    replace HN1 := Lib.hid (HN1.out.later hbk)
    replace HN2 := Lib.hid (HN2.out.later hbk)
    replace XN := Lib.hid (XN.out.later hbk)
    replace HB := Lib.hid (HB.out.trans (hbk.mono HB.out.size))
    clear hbk JS3
    have j := JS4.out w26 HM1.out HM2.out
    have J := Lib.hid j
    clear j
    have q0_0 := XM.out.c 0 rfl
    have q0_1 := XM.out.c 1 rfl
    go_wp2_with fail
    refine (J.out).mono ?_
    rintro e w27 ⟨rfl, hbk⟩
    clear J
    clear q0_0 q0_1
    replace XO := Lib.hid (XO.out.later hbk)
    replace XX := Lib.hid (XX.out.later hbk)
    replace HL := Lib.hid (HL.out.later hbk)
    replace HY := Lib.hid (HY.out.later hbk)
    replace HC1 := Lib.hid (HC1.out.later hbk)
    replace HC2 := Lib.hid (HC2.out.later hbk)
    replace XC := Lib.hid (XC.out.later hbk)
    replace HZ1 := Lib.hid (HZ1.out.later hbk)
    replace HZ2 := Lib.hid (HZ2.out.later hbk)
    replace XZ := Lib.hid (XZ.out.later hbk)
    replace HM1 := Lib.hid (HM1.out.later hbk)
    replace HM2 := Lib.hid (HM2.out.later hbk)
    replace XM := Lib.hid (XM.out.later hbk)
    replace HN1 := Lib.hid (HN1.out.later hbk)
    replace HN2 := Lib.hid (HN2.out.later hbk)
    replace XN := Lib.hid (XN.out.later hbk)
    replace HB := Lib.hid (HB.out.trans (hbk.mono HB.out.size))
    clear hbk JS4
    cases bo with
    | false =>
      have q0_0 := XO.out.c 0 rfl
      have q0_1 := XO.out.c 1 rfl
      have q0_2 := XO.out.c 2 rfl
      have q0_3 := XO.out.c 3 rfl
      have q0_4 := XO.out.c 4 rfl
      have q0_5 := XO.out.c 5 rfl
      have q1_0 := XX.out.c 0 rfl
      have q1_1 := XX.out.c 1 rfl
      have q1_2 := XX.out.c 2 rfl
      have q1_3 := XX.out.c 3 rfl
      have q1_4 := XX.out.c 4 rfl
      have q1_5 := XX.out.c 5 rfl
      cases bl with
      | false =>
        cases bc with
        | false =>
          cases bm with
          | false =>
            go_wp2_with fail
            all_goals (try exact undef_no (by assumption))
            go_ret
            exact ⟨rfl, HB.out⟩
          | true =>
            obtain ⟨rfl, rfl⟩ := HMB.out rfl
            have j := implEqualMachinesW _ _ _ _ N1 N2 _ _ _ _ N1 N2 w27 (by omega) (by omega) HN1.out HN2.out (by omega) (by omega) HM1.out HM2.out
            simp only [and_self, decide_true] at j
            have J := Lib.hid j
            clear j
            have z0_0 := XN.out.c 0 rfl
            have z0_1 := XN.out.c 1 rfl
            have z1_0 := XM.out.c 0 rfl
            have z1_1 := XM.out.c 1 rfl
            go_wp2_with fail
            all_goals (try exact undef_no (by assumption))
            refine (J.out).mono ?_
            rintro e wz ⟨rfl, hbk⟩
            replace HB := Lib.hid (HB.out.trans (hbk.mono HB.out.size))
            go_wp2_with fail
            all_goals (try exact undef_no (by assumption))
            go_ret
            exact ⟨rfl, HB.out⟩
        | true =>
          obtain ⟨rfl, rfl, rfl, rfl⟩ := HCB.out rfl
          have j := implEqualConfigs zx zy _ _ _ _ Z1 Z2 zx zy _ _ _ _ Z1 Z2 w27 (by omega) (by omega) HZ1.out HZ2.out (by omega) (by omega) HC1.out HC2.out
          simp only [and_self, decide_true] at j
          have J := Lib.hid j
          clear j
          have y0_0 := XZ.out.c 0 rfl
          have y0_1 := XZ.out.c 1 rfl
          have y0_2 := XZ.out.c 2 rfl
          have y0_3 := XZ.out.c 3 rfl
          have y1_0 := XC.out.c 0 rfl
          have y1_1 := XC.out.c 1 rfl
          have y1_2 := XC.out.c 2 rfl
          have y1_3 := XC.out.c 3 rfl
          go_wp2_with fail
          all_goals (try exact undef_no (by assumption))
          refine (J.out).mono ?_
          rintro e w28 ⟨rfl, hbk⟩
          replace XO := Lib.hid (XO.out.later hbk)
          replace XX := Lib.hid (XX.out.later hbk)
          replace HL := Lib.hid (HL.out.later hbk)
          replace HY := Lib.hid (HY.out.later hbk)
          replace HC1 := Lib.hid (HC1.out.later hbk)
          replace HC2 := Lib.hid (HC2.out.later hbk)
          replace XC := Lib.hid (XC.out.later hbk)
          replace HZ1 := Lib.hid (HZ1.out.later hbk)
          replace HZ2 := Lib.hid (HZ2.out.later hbk)
          replace XZ := Lib.hid (XZ.out.later hbk)
          replace HM1 := Lib.hid (HM1.out.later hbk)
          replace HM2 := Lib.hid (HM2.out.later hbk)
          replace XM := Lib.hid (XM.out.later hbk)
          replace HN1 := Lib.hid (HN1.out.later hbk)
          replace HN2 := Lib.hid (HN2.out.later hbk)
          replace XN := Lib.hid (XN.out.later hbk)
          replace HB := Lib.hid (HB.out.trans (hbk.mono HB.out.size))
          clear hbk J y0_0 y0_1 y0_2 y0_3 y1_0 y1_1 y1_2 y1_3
          cases bm with
          | false =>
            go_wp2_with fail
            all_goals (try exact undef_no (by assumption))
            go_ret
            exact ⟨rfl, HB.out⟩
          | true =>
            obtain ⟨rfl, rfl⟩ := HMB.out rfl
            have j := implEqualMachinesW _ _ _ _ N1 N2 _ _ _ _ N1 N2 w28 (by omega) (by omega) HN1.out HN2.out (by omega) (by omega) HM1.out HM2.out
            simp only [and_self, decide_true] at j
            have J := Lib.hid j
            clear j
            have z0_0 := XN.out.c 0 rfl
            have z0_1 := XN.out.c 1 rfl
            have z1_0 := XM.out.c 0 rfl
            have z1_1 := XM.out.c 1 rfl
            go_wp2_with fail
            all_goals (try exact undef_no (by assumption))
            refine (J.out).mono ?_
            rintro e wz ⟨rfl, hbk⟩
            replace HB := Lib.hid (HB.out.trans (hbk.mono HB.out.size))
            go_wp2_with fail
            all_goals (try exact undef_no (by assumption))
            go_ret
            exact ⟨rfl, HB.out⟩
      | true =>
        obtain rfl := HLB.out rfl
        have j := implIsPrefix _ _ Y _ _ Y w27 (by omega) HY.out (by omega) HL.out
        rw [hself] at j
        have J := Lib.hid j
        clear j
        have tl : ((Y.length : Int) == (Y.length : Int)) = true := by simp
        go_wp2_with fail
        all_goals (try exact undef_no (by assumption))
        refine (J.out).mono ?_
        rintro e w28 ⟨rfl, hbk⟩
        replace XO := Lib.hid (XO.out.later hbk)
        replace XX := Lib.hid (XX.out.later hbk)
        replace HL := Lib.hid (HL.out.later hbk)
        replace HY := Lib.hid (HY.out.later hbk)
        replace HC1 := Lib.hid (HC1.out.later hbk)
        replace HC2 := Lib.hid (HC2.out.later hbk)
        replace XC := Lib.hid (XC.out.later hbk)
        replace HZ1 := Lib.hid (HZ1.out.later hbk)
        replace HZ2 := Lib.hid (HZ2.out.later hbk)
        replace XZ := Lib.hid (XZ.out.later hbk)
        replace HM1 := Lib.hid (HM1.out.later hbk)
        replace HM2 := Lib.hid (HM2.out.later hbk)
        replace XM := Lib.hid (XM.out.later hbk)
        replace HN1 := Lib.hid (HN1.out.later hbk)
        replace HN2 := Lib.hid (HN2.out.later hbk)
        replace XN := Lib.hid (XN.out.later hbk)
        replace HB := Lib.hid (HB.out.trans (hbk.mono HB.out.size))
        clear hbk J tl
        clear q0_0 q0_1 q0_2 q0_3 q0_4 q0_5
        clear q1_0 q1_1 q1_2 q1_3 q1_4 q1_5
        cases bc with
        | false =>
          cases bm with
          | false =>
            go_wp2_with fail
            all_goals (try exact undef_no (by assumption))
            go_ret
            exact ⟨rfl, HB.out⟩
          | true =>
            obtain ⟨rfl, rfl⟩ := HMB.out rfl
            have j := implEqualMachinesW _ _ _ _ N1 N2 _ _ _ _ N1 N2 w28 (by omega) (by omega) HN1.out HN2.out (by omega) (by omega) HM1.out HM2.out
            simp only [and_self, decide_true] at j
            have J := Lib.hid j
            clear j
            have z0_0 := XN.out.c 0 rfl
            have z0_1 := XN.out.c 1 rfl
            have z1_0 := XM.out.c 0 rfl
            have z1_1 := XM.out.c 1 rfl
            go_wp2_with fail
            all_goals (try exact undef_no (by assumption))
            refine (J.out).mono ?_
            rintro e wz ⟨rfl, hbk⟩
            replace HB := Lib.hid (HB.out.trans (hbk.mono HB.out.size))
            go_wp2_with fail
            all_goals (try exact undef_no (by assumption))
            go_ret
            exact ⟨rfl, HB.out⟩
        | true =>
          obtain ⟨rfl, rfl, rfl, rfl⟩ := HCB.out rfl
          have j := implEqualConfigs zx zy _ _ _ _ Z1 Z2 zx zy _ _ _ _ Z1 Z2 w28 (by omega) (by omega) HZ1.out HZ2.out (by omega) (by omega) HC1.out HC2.out
          simp only [and_self, decide_true] at j
          have J := Lib.hid j
          clear j
          have y0_0 := XZ.out.c 0 rfl
          have y0_1 := XZ.out.c 1 rfl
          have y0_2 := XZ.out.c 2 rfl
          have y0_3 := XZ.out.c 3 rfl
          have y1_0 := XC.out.c 0 rfl
          have y1_1 := XC.out.c 1 rfl
          have y1_2 := XC.out.c 2 rfl
          have y1_3 := XC.out.c 3 rfl
          go_wp2_with fail
          all_goals (try exact undef_no (by assumption))
          refine (J.out).mono ?_
          rintro e w29 ⟨rfl, hbk⟩
          replace XO := Lib.hid (XO.out.later hbk)
          replace XX := Lib.hid (XX.out.later hbk)
          replace HL := Lib.hid (HL.out.later hbk)
          replace HY := Lib.hid (HY.out.later hbk)
          replace HC1 := Lib.hid (HC1.out.later hbk)
          replace HC2 := Lib.hid (HC2.out.later hbk)
          replace XC := Lib.hid (XC.out.later hbk)
          replace HZ1 := Lib.hid (HZ1.out.later hbk)
          replace HZ2 := Lib.hid (HZ2.out.later hbk)
          replace XZ := Lib.hid (XZ.out.later hbk)
          replace HM1 := Lib.hid (HM1.out.later hbk)
          replace HM2 := Lib.hid (HM2.out.later hbk)
          replace XM := Lib.hid (XM.out.later hbk)
          replace HN1 := Lib.hid (HN1.out.later hbk)
          replace HN2 := Lib.hid (HN2.out.later hbk)
          replace XN := Lib.hid (XN.out.later hbk)
          replace HB := Lib.hid (HB.out.trans (hbk.mono HB.out.size))
          clear hbk J y0_0 y0_1 y0_2 y0_3 y1_0 y1_1 y1_2 y1_3
          cases bm with
          | false =>
            go_wp2_with fail
            all_goals (try exact undef_no (by assumption))
            go_ret
            exact ⟨rfl, HB.out⟩
          | true =>
            obtain ⟨rfl, rfl⟩ := HMB.out rfl
            have j := implEqualMachinesW _ _ _ _ N1 N2 _ _ _ _ N1 N2 w29 (by omega) (by omega) HN1.out HN2.out (by omega) (by omega) HM1.out HM2.out
            simp only [and_self, decide_true] at j
            have J := Lib.hid j
            clear j
            have z0_0 := XN.out.c 0 rfl
            have z0_1 := XN.out.c 1 rfl
            have z1_0 := XM.out.c 0 rfl
            have z1_1 := XM.out.c 1 rfl
            go_wp2_with fail
            all_goals (try exact undef_no (by assumption))
            refine (J.out).mono ?_
            rintro e wz ⟨rfl, hbk⟩
            replace HB := Lib.hid (HB.out.trans (hbk.mono HB.out.size))
            go_wp2_with fail
            all_goals (try exact undef_no (by assumption))
            go_ret
            exact ⟨rfl, HB.out⟩
    | true =>
      obtain ⟨rfl, rfl, rfl, rfl, rfl, rfl⟩ : xc = c ∧ xs = s ∧ xk = k ∧ xo = o ∧ xd = d ∧ xv = v := by have h := HOB.out rfl; simpa only [Prod.mk.injEq] using h
      have q0_0 := XO.out.c 0 rfl
      have q0_1 := XO.out.c 1 rfl
      have q0_2 := XO.out.c 2 rfl
      have q0_3 := XO.out.c 3 rfl
      have q0_4 := XO.out.c 4 rfl
      have q0_5 := XO.out.c 5 rfl
      have q1_0 := XX.out.c 0 rfl
      have q1_1 := XX.out.c 1 rfl
      have q1_2 := XX.out.c 2 rfl
      have q1_3 := XX.out.c 3 rfl
      have q1_4 := XX.out.c 4 rfl
      have q1_5 := XX.out.c 5 rfl
      have ixc : (xc == xc) = true := by simp
      have ixs : (xs == xs) = true := by simp
      have ixk : (xk == xk) = true := by simp
      have ixo : (xo == xo) = true := by simp
      have ixd : (xd == xd) = true := by simp
      have ixv : (xv == xv) = true := by simp
      cases bl with
      | false =>
        cases bc with
        | false =>
          cases bm with
          | false =>
            go_wp2_with fail
            all_goals (try exact undef_no (by assumption))
            go_ret
            exact ⟨rfl, HB.out⟩
          | true =>
            obtain ⟨rfl, rfl⟩ := HMB.out rfl
            have j := implEqualMachinesW _ _ _ _ N1 N2 _ _ _ _ N1 N2 w27 (by omega) (by omega) HN1.out HN2.out (by omega) (by omega) HM1.out HM2.out
            simp only [and_self, decide_true] at j
            have J := Lib.hid j
            clear j
            have z0_0 := XN.out.c 0 rfl
            have z0_1 := XN.out.c 1 rfl
            have z1_0 := XM.out.c 0 rfl
            have z1_1 := XM.out.c 1 rfl
            go_wp2_with fail
            all_goals (try exact undef_no (by assumption))
            refine (J.out).mono ?_
            rintro e wz ⟨rfl, hbk⟩
            replace HB := Lib.hid (HB.out.trans (hbk.mono HB.out.size))
            go_wp2_with fail
            all_goals (try exact undef_no (by assumption))
            go_ret
            exact ⟨rfl, HB.out⟩
        | true =>
          obtain ⟨rfl, rfl, rfl, rfl⟩ := HCB.out rfl
          have j := implEqualConfigs zx zy _ _ _ _ Z1 Z2 zx zy _ _ _ _ Z1 Z2 w27 (by omega) (by omega) HZ1.out HZ2.out (by omega) (by omega) HC1.out HC2.out
          simp only [and_self, decide_true] at j
          have J := Lib.hid j
          clear j
          have y0_0 := XZ.out.c 0 rfl
          have y0_1 := XZ.out.c 1 rfl
          have y0_2 := XZ.out.c 2 rfl
          have y0_3 := XZ.out.c 3 rfl
          have y1_0 := XC.out.c 0 rfl
          have y1_1 := XC.out.c 1 rfl
          have y1_2 := XC.out.c 2 rfl
          have y1_3 := XC.out.c 3 rfl
          go_wp2_with fail
          all_goals (try exact undef_no (by assumption))
          refine (J.out).mono ?_
          rintro e w28 ⟨rfl, hbk⟩
          replace XO := Lib.hid (XO.out.later hbk)
          replace XX := Lib.hid (XX.out.later hbk)
          replace HL := Lib.hid (HL.out.later hbk)
          replace HY := Lib.hid (HY.out.later hbk)
          replace HC1 := Lib.hid (HC1.out.later hbk)
          replace HC2 := Lib.hid (HC2.out.later hbk)
          replace XC := Lib.hid (XC.out.later hbk)
          replace HZ1 := Lib.hid (HZ1.out.later hbk)
          replace HZ2 := Lib.hid (HZ2.out.later hbk)
          replace XZ := Lib.hid (XZ.out.later hbk)
          replace HM1 := Lib.hid (HM1.out.later hbk)
          replace HM2 := Lib.hid (HM2.out.later hbk)
          replace XM := Lib.hid (XM.out.later hbk)
          replace HN1 := Lib.hid (HN1.out.later hbk)
          replace HN2 := Lib.hid (HN2.out.later hbk)
          replace XN := Lib.hid (XN.out.later hbk)
          replace HB := Lib.hid (HB.out.trans (hbk.mono HB.out.size))
          clear hbk J y0_0 y0_1 y0_2 y0_3 y1_0 y1_1 y1_2 y1_3
          cases bm with
          | false =>
            go_wp2_with fail
            all_goals (try exact undef_no (by assumption))
            go_ret
            exact ⟨rfl, HB.out⟩
          | true =>
            obtain ⟨rfl, rfl⟩ := HMB.out rfl
            have j := implEqualMachinesW _ _ _ _ N1 N2 _ _ _ _ N1 N2 w28 (by omega) (by omega) HN1.out HN2.out (by omega) (by omega) HM1.out HM2.out
            simp only [and_self, decide_true] at j
            have J := Lib.hid j
            clear j
            have z0_0 := XN.out.c 0 rfl
            have z0_1 := XN.out.c 1 rfl
            have z1_0 := XM.out.c 0 rfl
            have z1_1 := XM.out.c 1 rfl
            go_wp2_with fail
            all_goals (try exact undef_no (by assumption))
            refine (J.out).mono ?_
            rintro e wz ⟨rfl, hbk⟩
            replace HB := Lib.hid (HB.out.trans (hbk.mono HB.out.size))
            go_wp2_with fail
            all_goals (try exact undef_no (by assumption))
            go_ret
            exact ⟨rfl, HB.out⟩
      | true =>
        obtain rfl := HLB.out rfl
        have j := implIsPrefix _ _ Y _ _ Y w27 (by omega) HY.out (by omega) HL.out
        rw [hself] at j
        have J := Lib.hid j
        clear j
        have tl : ((Y.length : Int) == (Y.length : Int)) = true := by simp
        go_wp2_with fail
        all_goals (try exact undef_no (by assumption))
        refine (J.out).mono ?_
        rintro e w28 ⟨rfl, hbk⟩
        replace XO := Lib.hid (XO.out.later hbk)
        replace XX := Lib.hid (XX.out.later hbk)
        replace HL := Lib.hid (HL.out.later hbk)
        replace HY := Lib.hid (HY.out.later hbk)
        replace HC1 := Lib.hid (HC1.out.later hbk)
        replace HC2 := Lib.hid (HC2.out.later hbk)
        replace XC := Lib.hid (XC.out.later hbk)
        replace HZ1 := Lib.hid (HZ1.out.later hbk)
        replace HZ2 := Lib.hid (HZ2.out.later hbk)
        replace XZ := Lib.hid (XZ.out.later hbk)
        replace HM1 := Lib.hid (HM1.out.later hbk)
        replace HM2 := Lib.hid (HM2.out.later hbk)
        replace XM := Lib.hid (XM.out.later hbk)
        replace HN1 := Lib.hid (HN1.out.later hbk)
        replace HN2 := Lib.hid (HN2.out.later hbk)
        replace XN := Lib.hid (XN.out.later hbk)
        replace HB := Lib.hid (HB.out.trans (hbk.mono HB.out.size))
        clear hbk J tl
        clear q0_0 q0_1 q0_2 q0_3 q0_4 q0_5
        clear q1_0 q1_1 q1_2 q1_3 q1_4 q1_5
        cases bc with
        | false =>
          cases bm with
          | false =>
            go_wp2_with fail
            all_goals (try exact undef_no (by assumption))
            go_ret
            exact ⟨rfl, HB.out⟩
          | true =>
            obtain ⟨rfl, rfl⟩ := HMB.out rfl
            have j := implEqualMachinesW _ _ _ _ N1 N2 _ _ _ _ N1 N2 w28 (by omega) (by omega) HN1.out HN2.out (by omega) (by omega) HM1.out HM2.out
            simp only [and_self, decide_true] at j
            have J := Lib.hid j
            clear j
            have z0_0 := XN.out.c 0 rfl
            have z0_1 := XN.out.c 1 rfl
            have z1_0 := XM.out.c 0 rfl
            have z1_1 := XM.out.c 1 rfl
            go_wp2_with fail
            all_goals (try exact undef_no (by assumption))
            refine (J.out).mono ?_
            rintro e wz ⟨rfl, hbk⟩
            replace HB := Lib.hid (HB.out.trans (hbk.mono HB.out.size))
            go_wp2_with fail
            all_goals (try exact undef_no (by assumption))
            go_ret
            exact ⟨rfl, HB.out⟩
        | true =>
          obtain ⟨rfl, rfl, rfl, rfl⟩ := HCB.out rfl
          have j := implEqualConfigs zx zy _ _ _ _ Z1 Z2 zx zy _ _ _ _ Z1 Z2 w28 (by omega) (by omega) HZ1.out HZ2.out (by omega) (by omega) HC1.out HC2.out
          simp only [and_self, decide_true] at j
          have J := Lib.hid j
          clear j
          have y0_0 := XZ.out.c 0 rfl
          have y0_1 := XZ.out.c 1 rfl
          have y0_2 := XZ.out.c 2 rfl
          have y0_3 := XZ.out.c 3 rfl
          have y1_0 := XC.out.c 0 rfl
          have y1_1 := XC.out.c 1 rfl
          have y1_2 := XC.out.c 2 rfl
          have y1_3 := XC.out.c 3 rfl
          go_wp2_with fail
          all_goals (try exact undef_no (by assumption))
          refine (J.out).mono ?_
          rintro e w29 ⟨rfl, hbk⟩
          replace XO := Lib.hid (XO.out.later hbk)
          replace XX := Lib.hid (XX.out.later hbk)
          replace HL := Lib.hid (HL.out.later hbk)
          replace HY := Lib.hid (HY.out.later hbk)
          replace HC1 := Lib.hid (HC1.out.later hbk)
          replace HC2 := Lib.hid (HC2.out.later hbk)
          replace XC := Lib.hid (XC.out.later hbk)
          replace HZ1 := Lib.hid (HZ1.out.later hbk)
          replace HZ2 := Lib.hid (HZ2.out.later hbk)
          replace XZ := Lib.hid (XZ.out.later hbk)
          replace HM1 := Lib.hid (HM1.out.later hbk)
          replace HM2 := Lib.hid (HM2.out.later hbk)
          replace XM := Lib.hid (XM.out.later hbk)
          replace HN1 := Lib.hid (HN1.out.later hbk)
          replace HN2 := Lib.hid (HN2.out.later hbk)
          replace XN := Lib.hid (XN.out.later hbk)
          replace HB := Lib.hid (HB.out.trans (hbk.mono HB.out.size))
          clear hbk J y0_0 y0_1 y0_2 y0_3 y1_0 y1_1 y1_2 y1_3
          cases bm with
          | false =>
            go_wp2_with fail
            all_goals (try exact undef_no (by assumption))
            go_ret
            exact ⟨rfl, HB.out⟩
          | true =>
            obtain ⟨rfl, rfl⟩ := HMB.out rfl
            have j := implEqualMachinesW _ _ _ _ N1 N2 _ _ _ _ N1 N2 w29 (by omega) (by omega) HN1.out HN2.out (by omega) (by omega) HM1.out HM2.out
            simp only [and_self, decide_true] at j
            have J := Lib.hid j
            clear j
            have z0_0 := XN.out.c 0 rfl
            have z0_1 := XN.out.c 1 rfl
            have z1_0 := XM.out.c 0 rfl
            have z1_1 := XM.out.c 1 rfl
            go_wp2_with fail
            all_goals (try exact undef_no (by assumption))
            refine (J.out).mono ?_
            rintro e wz ⟨rfl, hbk⟩
            replace HB := Lib.hid (HB.out.trans (hbk.mono HB.out.size))
            go_wp2_with fail
            all_goals (try exact undef_no (by assumption))
            go_ret
            exact ⟨rfl, HB.out⟩
end Go.Proofs.YtgjebjoaemeeoaaGreatDoor.fnOps
namespace Go.Proofs.YtgjebjoaemeeoaaGreatDoor.kit
open Go.ChangeShapes Go.WideShapes Go.ChangeAt Go.RowKit

theorem gPow : Tryz.prog.globalNamed "internal/strconv.uint64pow10" = some 1 := by kernel_rfl
theorem gPowType : (Tryz.prog.globals[1]?).map (·.type) = some 173 := by kernel_rfl
theorem cellsPow : Tryz.prog.cellsOf 173 = 20 := by kernel_rfl
theorem cellsU64 : Tryz.prog.cellsOf 163 = 1 := by kernel_rfl
theorem tab_of_laid {laid : List (String × DataW Unit)} {W : World} (he : laid.filter (fun x => x.1 == "internal/strconv.uint64pow10") = [("internal/strconv.uint64pow10", Rows.laid_internal_strconv_uint64pow10)]) (h : laidMetH Tryz.prog laid W) : Tab W := by
  have h1 := h.filter fun x => x.1 == "internal/strconv.uint64pow10"
  rw [he] at h1
  have h2 : Lib.TabIs Tryz.prog W "internal/strconv.uint64pow10" .u64 Lib.pow10Tab := Lib.tabIs_of_head (rest := []) gPow gPowType Tryz.underlying173 Tryz.underlying163 cellsU64 cellsPow h1
  exact Lib.tabBelow_of_tabIs h2

def litVal : DataW Unit → Value
  | .lit (.int k n) => .int k n
  | _ => undef
def litVals : DataW Unit → List Value
  | .agg m => m.map litVal
  | d => [litVal d]
/-- a table's cells laid into the block of its variable -/
def laidCells (heap : Array Obj) (g : Nat) (d : DataW Unit) : Array Obj :=
  heap.modify g fun
    | .cells _ t frozen => .cells (match d with | .agg l => (l.flatMap litVals).toArray | _ => #[]) t frozen
    | o => o
end Go.Proofs.YtgjebjoaemeeoaaGreatDoor.kit
namespace Go.Proofs.YtgjebjoaemeeoaaGreatDoor.fnOps
open Go.ChangeShapes Go.WideShapes Go.ChangeAt Go.RowKit
open Go.ChangeMaps (open_string shut_string)
set_option linter.unusedVariables false

set_option maxRecDepth 100000 in
theorem contract (H : Type) (enc : TypeId × Value → H) (W : World) (base : Nat) (args : Array Value) (ds gs : List (DataW H)) (before : List MemPlace)
    (hval0 : ∀ (j : Nat) t v, Tryz.f3.params[j]? = some t → args[j]? = some v → Value.okWide Tryz.prog W .any base t v)
    (hW : DataW.Whole enc Tryz.prog Tryz.f3.params.toList Rows.fnOpsSpec.vars false W args.toList ds gs before) (hL : laidMetH Tryz.prog Rows.fnOpsRow.laid W) (hS : W.ShapedOpen Tryz.prog) :
    Calls Tryz.prog 3 args W fun e W' => ∃ v, e = .returned v ∧ Rows.fnOpsSpec.post enc Tryz.prog Tryz.f3 false true false false W args v W' := by
  have hT : kit.Tab W := kit.tab_of_laid (by kernel_rfl) hL
  have hval : ∀ (j : Nat) t v, Tryz.f3.params[j]? = some t → args[j]? = some v → Value.okWide Tryz.prog W .any base t v := hval0
  have hW' := hW
  obtain ⟨p, q, hA0, hV, rfl, hfz, hnd⟩ := hW
  have hA : DataW.TrodAll enc Tryz.prog W 0 (fun _ => true) true Tryz.f3.params.toList args.toList ds p := hA0
  rw [Tryz.params3] at hA hval
  obtain ⟨v0, vs0, d0, ds0, p0, q0, hargs, rfl, rfl, h0, r0⟩ := trodAll_cons hA
  obtain ⟨rfl, rfl, rfl⟩ := trodAll_nil r0
  obtain rfl : args = #[v0] := by cases args; simp_all
  obtain ⟨rfl, rfl⟩ := trodVars_none hV
  obtain ⟨a0, len0, cap0, rfl⟩ := okWide_slice Tryz.underlying22 (hval 0 22 v0 rfl rfl)
  have k0 := h0
  have lt0 : ∀ x ∈ p0, x.block < W.heap.size := by obtain ⟨m, hm⟩ := k0; exact DataW.trod_lt m _ _ _ hm
  obtain ⟨z0, w0⟩ : ∃ zs, kit.IsRow .u8 W a0 len0 cap0 zs := by
    obtain ⟨fuel, hf⟩ := h0
    rcases open_ints Tryz.underlying22 Tryz.underlying5 (by kernel_rfl) hf with ⟨hcs, _⟩ | ⟨x, l, c, zs, hcs, _, hl, hm, hz, _, hcell, hwz⟩
    · simp [Value.cells] at hcs
      obtain ⟨rfl, rfl, rfl⟩ := hcs
      exact ⟨[], .inl ⟨rfl, rfl, rfl, rfl⟩⟩
    · simp [Value.cells] at hcs
      obtain ⟨rfl, rfl, rfl⟩ := hcs
      exact ⟨zs, .inr ⟨_, rfl, hl, hm, by simpa using hz, hcell, hwz⟩⟩
  clear hA0 hval0
  refine (walk a0 len0 cap0 z0 W w0 hT (kit.mx_of_shape hS)).mono fun e W' ⟨he, bel⟩ => ?_
  subst he
  exact ⟨_, rfl, _, _, _, [], _, [], hW', trodAll_mk1 (shut_bool Tryz.underlying4 _), (trodAll_cons_mk (Below.trod kit.laidOut (by kernel_rfl) (of_decide_eq_true (by kernel_rfl)) k0 bel lt0) trodAll_mk0), rfl, bel.frame _, fun h => by cases h⟩

noncomputable def laidWorld (os : Os) : World :=
  { World.holding Tryz.prog os ⟨#[], #[], []⟩ with heap := (kit.laidCells (kit.laidCells (kit.laidCells (kit.laidCells (kit.laidCells (World.holding Tryz.prog os ⟨#[], #[], []⟩).heap 4 Rows.laid_math_bits_deBruijn32tab) 5 Rows.laid_math_bits_deBruijn64tab) 1 Rows.laid_internal_strconv_uint64pow10) 3 Rows.laid_unicode_utf8_acceptRanges) 2 Rows.laid_unicode_utf8_first) }
theorem laid_met (os : Os) : laidMet Tryz.prog Rows.fnOpsRow.laid ((laidWorld os).forCall (fun _ _ => 0) ⟨#[], #[.slice none 0 0], []⟩).memory :=
  laidMet_of_run' 8 (by kernel_rfl) (by kernel_rfl)
theorem reads (os : Os) {H : Type} (enc : TypeId × Value → H) : ∃ places, DataW.whole enc Tryz.prog ((laidWorld os).forCall (fun _ _ => 0) ⟨#[], #[.slice none 0 0], []⟩).memory Tryz.f3.params.toList Rows.fnOpsSpec.vars false (#[.slice none 0 0] : Array Value).toList 8 = some ([.nil], [], places) :=
  ⟨[], by kernel_rfl⟩
set_option maxRecDepth 100000 in
theorem lifted (os : Os) (started : os.Started) (H : Type) (enc : TypeId × Value → H) (F : Stop.Interp) :
    ReturnsInHanded {} Tryz.checked os 3 .any ((OpenSpec.ofChange Rows.fnOpsSpec).preRow enc Tryz.prog Tryz.f3 Rows.fnOpsRow.domain false Rows.fnOpsRow.laid) (((OpenSpec.ofChange Rows.fnOpsSpec).at F).post enc Tryz.prog Tryz.f3 false true false false) := by
  obtain ⟨places, hx⟩ := reads os enc
  refine returnsInHanded_of_row (C := Tryz.checked) (s := OpenSpec.ofChange Rows.fnOpsSpec) kit.own started (by kernel_rfl) Tryz.func3
    (witness_row_at (enc := enc) (C := Tryz.checked) false (laidWorld os) #[.slice none 0 0] rfl (by kernel_rfl) (by kernel_rfl) (by kernel_rfl)
      (OpenSpec.preRow_of_cond 8 hx (by kernel_rfl) (fun k hk => by cases hk) (by kernel_rfl) (laid_met os))) ?_
  intro W base args ds gs before hval hW _ _ _ hL hS _
  exact contract H enc W base args ds gs before hval hW hL hS
theorem said : Rows.FnOpsSaid :=
  OpenClaim.holds_of_cond 3 Tryz.f3 rfl rfl rfl rfl rfl rfl rfl ⟨rfl, rfl, rfl, rfl, rfl⟩ rfl rfl rfl rfl rfl (by kernel_rfl) Tryz.func3 (by kernel_rfl)
    (of_decide_eq_true (by kernel_rfl)) (by unfold Func.isWrapper; first | (rw [if_pos (by decide +kernel)]; kernel_rfl) | (rw [if_neg (by decide +kernel)]; exact ⟨rfl, rfl⟩))
    (fun os started H enc _ F => by rw [OpenClaim.pre_eq_preRow]; exact lifted os started H enc F)
theorem plain (f : FuncId) (fn : Func) (hf : Tryz.pinned.checked.prog.funcNamed "loop.example/g01926/laws.FnOps" = some f) (hfn : Tryz.pinned.checked.prog.funcs[f]? = some fn) :
    false = Tryz.pinned.checked.prog.looks [] ∧ ∀ (j : Nat) t, fn.params[j]? = some t → Tryz.pinned.checked.prog.wantsStandIn t = false := by
  obtain rfl : f = 3 := Option.some.inj ((show Tryz.prog.funcNamed "loop.example/g01926/laws.FnOps" = some 3 by kernel_rfl).symm.trans hf) |>.symm
  obtain rfl : fn = Tryz.f3 := (Option.some.inj (Tryz.func3.symm.trans hfn)).symm
  refine ⟨by kernel_rfl, fun j t ht => ?_⟩
  rw [Tryz.params3] at ht
  have hm := Array.mem_of_getElem? ht
  have hall : ∀ t ∈ (#[22] : Array TypeId), Tryz.prog.wantsStandIn t = false := by
    intro t ht
    simp only [List.mem_toArray, List.mem_cons, List.not_mem_nil, or_false] at ht
    subst ht; exact (show Tryz.prog.wantsStandIn 22 = false by kernel_rfl)
  exact hall t hm
theorem proved : Rows.FnOpsCardSaid :=
  Claim7.holds_tied_plain_at .later [] _ _ _ _ said (fun _ h => by cases h) (by kernel_rfl) (fun _ h => by cases h) fnOps_row_tie rfl ⟨rfl, rfl⟩ (by kernel_rfl) rfl plain (by kernel_rfl)
end Go.Proofs.YtgjebjoaemeeoaaGreatDoor.fnOps
