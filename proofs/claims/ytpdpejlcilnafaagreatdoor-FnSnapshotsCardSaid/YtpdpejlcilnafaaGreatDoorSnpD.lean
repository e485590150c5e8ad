/-
  Texts of snapshots, chunks and their readers (merged text).
-/
import Derived.Test.YtpdpejlcilnafaaGreatDoorKit
import Derived.Lib.Builder
import Derived.Lib.AppendStr
import Derived.Lib.UnsafeStr
import Derived.Lib.Strings
import Derived.Handy
import Derived.OwnWalk
import Derived.Test.YtpdpejlcilnafaaGreatDoorS4Read
import Derived.Test.YtpdpejlcilnafaaGreatDoorSnpB
import Derived.Test.YtpdpejlcilnafaaGreatDoorKept
import Derived.Lib.AppendIntMem
import Derived.Deep.RegionHeld3
import Derived.Test.YtpdpejlcilnafaaGreatDoorS4Valid
import Derived.Test.YtpdpejlcilnafaaGreatDoorSnpA
import Derived.Test.YtpdpejlcilnafaaGreatDoorS4Rows
import Derived.Test.YtpdpejlcilnafaaGreatDoorInts
import Derived.Deep.Strs
import Derived.IntWalk
import Derived.Lib.OthersKept
import Derived.WalkSmall
import Derived.Deep.DeepCutAuto
import Derived.Deep.RegionWith
import Derived.Lib.Split
import Derived.Lib.IndexBytes
import Derived.Lib.Join
import Derived.Test.YtpdpejlcilnafaaGreatDoorS3Plain
import Derived.Lib.IndexAny
namespace Go.Proofs.YtpdpejlcilnafaaGreatDoor.kit
open Go.ChangeShapes Go.WideShapes Go.ChangeAt Go.RowKit
set_option linter.unusedVariables false

theorem sizeBuilder : (Tryz.prog.info? 88).map (·.size) = some 2 := by kernel_rfl
theorem infoByteB : (Tryz.prog.info? 5).map (fun i => (i.zero, i.size, i.bytes)) = some (some (.int .u8 0), 1, 1) := by kernel_rfl
set_option maxRecDepth 100000 in
set_option maxHeartbeats 1000000 in
theorem copyCheck_used (b : Nat) (w : World) (h0 : w.cell? ⟨b, 0, none⟩ = some (.pointer (some ⟨b, 0, none⟩))) :
    Calls Tryz.prog 92 #[.pointer (some ⟨b, 0, none⟩)] w fun e w' => e = .returned (.tuple #[]) ∧ w' = w := by
  obtain ⟨j, hj, _⟩ := Option.map_eq_some_iff.1 sizeBuilder
  have hn := fun (w : World) => Lib.run_neq_ptr_same w (⟨b, 0, none⟩ : Addr) Tryz.underlying86 hj
  clear hj
  go_enter Tryz.func92, Tryz.ntmps92
  go_wp2_with fail
  go_end0
  exact ⟨rfl, rfl⟩
set_option maxRecDepth 100000 in
set_option maxHeartbeats 1000000 in
theorem copyCheck_fresh (b : Nat) (w : World) (h0 : w.cell? ⟨b, 0, none⟩ = some (.pointer none)) (hsh : w.shape? b = some (88, 2)) (hfz : w.frozen? ⟨b, 0, none⟩ = false) :
    Calls Tryz.prog 92 #[.pointer (some ⟨b, 0, none⟩)] w fun e w' => e = .returned (.tuple #[]) ∧ w' = w.setCell ⟨b, 0, none⟩ (.pointer (some ⟨b, 0, none⟩)) := by
  obtain ⟨j, hj, hjs⟩ := Option.map_eq_some_iff.1 sizeBuilder
  have hu := Lib.run_to_unsafe w ⟨b, 0, none⟩ Tryz.underlying86 Tryz.underlying171 hj (by rw [hjs]; decide) hsh (Nat.zero_lt_succ 1)
  have hv := Lib.run_from_unsafe w ⟨b, 0, none⟩ Tryz.underlying171 Tryz.underlying86 hj hsh (by kernel_rfl)
  have hc := fun (args : Array Value) (W : World) => run_callFunc_extern (P := Tryz.prog) Tryz.func120 (by kernel_rfl) (by kernel_rfl) (by kernel_rfl) (e := Extern.AbiNoEscape.same) (by kernel_rfl) args W
  clear hj hjs
  go_enter Tryz.func92, Tryz.ntmps92
  have hn := fun (x : Value) (W : World) => Lib.run_noEscape (P := Tryz.prog) (w := W) x
  go_wp2_with fail
  go_end0
  exact ⟨rfl, rfl⟩
abbrev IsB (B b : Nat) (bs : List Value) (w : World) : Prop := Lib.IsBuilder 88 5 B b bs w
theorem copyCheck (B b : Nat) (bs : List Value) (w : World) (h : IsB B b bs w) :
    Calls Tryz.prog 92 #[.pointer (some ⟨b, 0, none⟩)] w fun e w' => e = .returned (.tuple #[]) ∧ (Lib.BuilderAt 88 5 B b (.pointer (some ⟨b, 0, none⟩)) bs w' ∧ Below B w w') := by
  rcases h with h | h
  · refine (copyCheck_fresh b w h.cell0 h.shape h.frozen0).mono ?_
    rintro e w' ⟨rfl, rfl⟩
    exact ⟨rfl, h.used _, (Below.refl B w).setCell (p := ⟨b, 0, none⟩) h.1 _⟩
  · refine (copyCheck_used b w h.cell0).mono ?_
    rintro e w' ⟨rfl, rfl⟩
    exact ⟨rfl, h, Below.refl B _⟩
set_option maxRecDepth 100000 in
set_option maxHeartbeats 2000000 in
theorem writeString (B b : Nat) (bs : List Value) (s : ByteArray) (w : World) (h : IsB B b bs w) (hlen : bs.length + s.size ≤ 140737488355328) (hBw : B ≤ w.heap.size) :
    Calls Tryz.prog 54 #[.pointer (some ⟨b, 0, none⟩), .string s] w fun e w' => e = .returned (.tuple #[.int .i64 s.size, .nilIface]) ∧ (IsB B b (bs ++ Lib.strCells s) w' ∧ Below B w w') := by
  obtain ⟨i0, hi, hz0, hz1, hz2⟩ := info_parts infoByteB
  go_enter Tryz.func54, Tryz.ntmps54
  go_wp2_with fail
  refine (copyCheck B b bs _ h).mono ?_
  rintro e w1 ⟨rfl, h1, hb1⟩
  obtain ⟨hB, v, hbk, hown, hne⟩ := h1
  have c0 : w1.cell? ⟨b, 0, none⟩ = some (.pointer (some ⟨b, 0, none⟩)) := by rw [Lib.cell_of_heap hbk]; rfl
  have c1 : w1.cell? ⟨b, 1, none⟩ = some v := by rw [Lib.cell_of_heap hbk]; rfl
  go_wp2_with (at_builtin; refine Lib.wpList_append_own_string _ rfl _ _ 22 9 rfl B 5 i0 Tryz.underlying22 Tryz.underlying9 hi hz0 hz1 hz2 _ _ _ rfl hown s rfl ?c3 ?c4 ?c5 ?_)
  case c3 => unfold maxLen; omega
  case c4 => omega
  case c5 => have := hb1.size; omega
  intro v' w2 hown' hgrow _
  have hlt : b < w1.heap.size := by
    rcases Nat.lt_or_ge b w1.heap.size with h' | h'
    · exact h'
    · simp [Array.getElem?_eq_none h'] at hbk
  have hb2 : w2.heap[b]? = some (.cells #[.pointer (some ⟨b, 0, none⟩), v] 88 (0, 0)) := by
    rw [hgrow.block b hlt (fun e => hne e.symm)]
    exact hbk
  have d0 : w2.cell? ⟨b, 0, none⟩ = some (.pointer (some ⟨b, 0, none⟩)) := by rw [Lib.cell_of_heap hb2]; rfl
  have d1 : w2.cell? ⟨b, 1, none⟩ = some v := by rw [Lib.cell_of_heap hb2]; rfl
  have f1 : w2.frozen? ⟨b, 1, none⟩ = false := Lib.frozen_of_heap hb2 1
  obtain ⟨ao, n', cap, rfl⟩ : ∃ ao n' cap, v' = .slice ao n' cap := by
    rcases hown'.2 with ⟨hv, _⟩ | ⟨g, cap, cur, hv, _⟩
    · exact ⟨_, _, _, hv⟩
    · exact ⟨_, _, _, hv⟩
  go_wp2_with fail
  go_returns
  refine ⟨rfl, ?_, ?_⟩
  · exact .inr (Lib.BuilderAt.put (T := 88) (e := 5) hB hb2 (bs' := bs ++ Lib.strCells s) (by simpa [Lib.strCells_length] using hown') (by decide))
  · exact (hb1.grown hgrow (by have := hb1.size; omega) (fun k hk => (hown.lt k hk).1)).setCell (p := ⟨b, 1, none⟩) hB _
end Go.Proofs.YtpdpejlcilnafaaGreatDoor.kit
namespace Go.Proofs.YtpdpejlcilnafaaGreatDoor.kit
open Go.ChangeShapes Go.WideShapes Go.ChangeAt Go.RowKit
set_option linter.unusedVariables false

def sgn (d : Bool) : UInt8 := if d then 43 else 45
def fmtX (x : Sess) : List UInt8 := Lib.itoa x.1 ++ ([46] ++ (Lib.itoa x.2.1 ++ ([sgn x.2.2.1] ++ Lib.itoa x.2.2.2)))
def fmtXs (l : List Sess) : List UInt8 := l.flatMap fun x => [32] ++ fmtX x
def fmtOs (l : List Int) : List UInt8 := l.flatMap Lib.itoa
def fmtM (L1 : List Int) (L2 : List Sess) : List UInt8 := if MOk L1 L2 then fmtOs L1 ++ fmtXs L2 else []
theorem okV_in' {v : Int} (h : okV v = true) : 0 ≤ v ∧ v ≤ 9 := of_decide_eq_true h
theorem okC_in' {v : Int} (h : okC v = true) : 0 ≤ v ∧ v ≤ 2 := of_decide_eq_true h
theorem okS_in' {v : Int} (h : okS v = true) : 1 ≤ v ∧ v ≤ 99 := of_decide_eq_true h
theorem sessOk_in {c s : Int} {d : Bool} {v : Int} (h : sessOk (c, s, d, v) = true) : (0 ≤ c ∧ c ≤ 2) ∧ (1 ≤ s ∧ s ≤ 99) ∧ (0 ≤ v ∧ v ≤ 9) := by
  unfold sessOk at h
  simp only [Bool.and_eq_true] at h
  exact ⟨okC_in' h.1, okS_in' h.2.1, okV_in' h.2.2⟩
theorem fmtOs_snoc (l : List Int) (k : Nat) (h : k < l.length) : fmtOs (l.take (k + 1)) = fmtOs (l.take k) ++ Lib.itoa (l.getD k 0) := by
  unfold fmtOs
  rw [take_snocI l k h, List.flatMap_append]
  simp
theorem take_snocS (l : List Sess) (k : Nat) (h : k < l.length) : l.take (k + 1) = l.take k ++ [sg l k] := by
  rw [List.take_succ_eq_append_getElem h, sg_eq h]
theorem fmtXs_snoc (l : List Sess) (k : Nat) (h : k < l.length) : fmtXs (l.take (k + 1)) = fmtXs (l.take k) ++ ([32] ++ fmtX (sg l k)) := by
  unfold fmtXs
  rw [take_snocS l k h, List.flatMap_append]
  simp
theorem fmtOs_len {l : List Int} {L2 : List Sess} (h : MOk l L2) (k : Nat) : (fmtOs (l.take k)).length ≤ 63 := by
  have h3 := h.1
  have hv := h.2.1
  match l, h3 with
  | [a, b, c], _ =>
    have ha := okV_in' (hv 0 (by simp))
    have hb := okV_in' (hv 1 (by simp))
    have hc := okV_in' (hv 2 (by simp))
    simp only [List.getD_cons_zero, List.getD_cons_succ] at ha hb hc
    have la := itoa_le a (by omega) (by omega)
    have lb := itoa_le b (by omega) (by omega)
    have lc := itoa_le c (by omega) (by omega)
    unfold fmtOs
    match k with
    | 0 => simp
    | 1 => simp; omega
    | 2 => simp; omega
    | (n + 3) => simp; omega
theorem fmtXs_len {L1 : List Int} {l : List Sess} (h : MOk L1 l) (k : Nat) : (fmtXs (l.take k)).length ≤ 66 * k := by
  induction k with
  | zero => simp [fmtXs]
  | succ k ih =>
    by_cases hk : k < l.length
    · rw [fmtXs_snoc l k hk]
      have hs := (h.2.2 k hk).1
      obtain ⟨c, s, d, v, hx⟩ : ∃ c s d v, sg l k = (c, s, d, v) := ⟨_, _, _, _, rfl⟩
      rw [hx] at hs ⊢
      obtain ⟨h1, h2, h3⟩ := sessOk_in hs
      have l1 := itoa_le c (by omega) (by omega)
      have l2 := itoa_le s (by omega) (by omega)
      have l3 := itoa_le v (by omega) (by omega)
      simp [fmtX]
      omega
    · rw [List.take_of_length_le (by omega)] at ih ⊢
      omega
set_option maxRecDepth 100000 in
set_option maxHeartbeats 8000000 in
theorem specFormatMachineA (a1 : Option Addr) (c1 : Nat) (L1 : List Int) (a2 : Option Addr) (c2 : Nat) (L2 : List Sess) (w : World) (h1 : L1.length ≤ 4194304) (h2 : L2.length ≤ 4194304) (ha1 : At w a1 L1) (ha2 : AtS w a2 L2) :
    Calls Tryz.prog 47 #[.agg #[.slice a1 L1.length c1, .slice a2 L2.length c2]] w fun e w' => e = .returned (str (fmtM L1 L2)) ∧ Below w.heap.size w w' := by
  obtain ⟨WB, hWB⟩ : ∃ W, W = w.alloc (.cells #[.slice a1 L1.length c1, .slice a2 L2.length c2] 30) := ⟨_, rfl⟩
  have x0 : WB.cell? ⟨w.heap.size, 0, none⟩ = some (.slice a1 L1.length c1) := by rw [hWB, World.cell?_alloc_at _ _ _ _ rfl]; rfl
  have x1 : WB.cell? ⟨w.heap.size, 1, none⟩ = some (.slice a2 L2.length c2) := by rw [hWB, World.cell?_alloc_at _ _ _ _ rfl]; rfl
  have HB := Lib.hid (show Below w.heap.size w WB by rw [hWB]; exact (Below.refl _ _).alloc (Nat.le_refl _) _)
  have hlt : w.heap.size < WB.heap.size := by rw [hWB]; simp
  have HW := Lib.hid hWB
  clear hWB
  have jv := specIsValidMachineA a1 c1 L1 a2 c2 L2 WB h1 h2 (ha1.later HB.out) (ha2.later HB.out)
  have HA1 := Lib.hid ha1
  have HA2 := Lib.hid ha2
  clear ha1 ha2
  by_cases hm : MOk L1 L2
  · rw [decide_eq_true hm] at jv
    have HM := Lib.hid hm
    have HF := Lib.hid (show fmtM L1 L2 = fmtOs L1 ++ fmtXs L2 by unfold fmtM; rw [if_pos hm])
    have JV := Lib.hid jv
    clear hm jv
    go_enter Tryz.func47, Tryz.ntmps47
    go_wp2_with fail
    rw [← HW.out]
    refine JV.out.mono ?_
    rintro e w1 ⟨rfl, hb⟩
    have HQ0 := Lib.hid hb
    replace x0 := (hb.cell (p := ⟨w.heap.size, 0, none⟩) hlt).trans x0
    replace x1 := (hb.cell (p := ⟨w.heap.size, 1, none⟩) hlt).trans x1
    replace hlt := Nat.lt_of_lt_of_le hlt hb.size
    replace HB := Lib.hid (HB.out.trans (hb.mono HB.out.size))
    clear hb JV HW
    go_wp2_with fail
    go_loopw [3, 4] (fun t i wr => ∃ k : Nat, k ≤ L1.length ∧ i = .int .i64 k ∧ t = str (fmtOs (L1.take k)) ∧ Hid (Below w1.heap.size w1 wr)) (fun _ i _ => L1.length - (intOf i).toNat)
    case atStart => exact ⟨0, Nat.zero_le _, rfl, rfl, Lib.hid (Below.refl _ _)⟩
    case round =>
      obtain ⟨k, hk, rfl, rfl, HQ⟩ := hrel
      have y0 := (HQ.out.cell (p := ⟨w.heap.size, 0, none⟩) hlt).trans x0
      have y1 := (HQ.out.cell (p := ⟨w.heap.size, 1, none⟩) hlt).trans x1
      have HBr := Lib.hid (HB.out.trans (HQ.out.mono HB.out.size))
      have hsz := HQ.out.size
      by_cases hlt1 : k < L1.length
      · obtain ⟨x, rfl, _, hc⟩ := (HA1.out.later HBr.out) k hlt1
        have hv := okV_in' (HM.out.2.1 k hlt1)
        have HS := Lib.hid (fmtOs_snoc L1 k hlt1)
        have lS := fmtOs_len HM.out k
        generalize L1.getD k 0 = z at hc hv HS
        generalize fmtOs (L1.take k) = T at lS HS
        have lz := itoa_le z (by omega) (by omega)
        have e1 : ¬ (9223372036854775807 < T.length + (Lib.itoa z).length) := by omega
        clear x0 x1
        go_wp2_with fail
        refine (specFormatInt z wr (by omega) (by omega)).mono ?_
        rintro e w2 ⟨rfl, hb2⟩
        have HQ2 := Lib.hid (HQ.out.trans (hb2.mono hsz))
        clear hb2 y0 y1 hc hsz
        go_wp2_with fail
        go_roundw
        case rel => exact ⟨k + 1, by omega, by go_num, by rw [HS.out]; exact str_app _ _, HQ2⟩
        case measure => simp [intOf]; omega
      · obtain rfl : k = L1.length := by omega
        have HS0 := Lib.hid (show fmtOs (L1.take L1.length) = fmtOs L1 by rw [List.take_length])
        have lT := fmtOs_len HM.out L1.length
        generalize fmtOs (L1.take L1.length) = T at HS0 lT
        clear x0 x1
        go_wp2_with fail
        go_loopw [3, 5] (fun t i wq => ∃ k : Nat, k ≤ L2.length ∧ i = .int .i64 k ∧ t = str (T ++ fmtXs (L2.take k)) ∧ Hid (Below wr.heap.size wr wq)) (fun _ i _ => L2.length - (intOf i).toNat)
        case atStart => exact ⟨0, Nat.zero_le _, rfl, by simp [fmtXs], Lib.hid (Below.refl _ _)⟩
        case round =>
          obtain ⟨k, hk2, rfl, rfl, HQ2⟩ := hrel
          have q1 := (HQ2.out.cell (p := ⟨w.heap.size, 1, none⟩) (Nat.lt_of_lt_of_le hlt hsz)).trans y1
          have HBq := Lib.hid (HBr.out.trans (HQ2.out.mono HBr.out.size))
          have hsq := HQ2.out.size
          by_cases hlt2 : k < L2.length
          · obtain ⟨g, o, rfl, hg, hc⟩ := HA2.out k hlt2
            obtain ⟨c0, c1', c2', c3⟩ := hc.below HBq.out hg
            obtain ⟨c, s, d, v, hsg⟩ : ∃ c s d v, sg L2 k = (c, s, d, v) := ⟨_, _, _, _, rfl⟩
            have hok := (HM.out.2.2 k hlt2).1
            have HS := Lib.hid (show T ++ fmtXs (L2.take (k + 1)) = (T ++ fmtXs (L2.take k)) ++ ([32] ++ fmtX (c, s, d, v)) by rw [fmtXs_snoc L2 k hlt2, hsg, List.append_assoc])
            rw [hsg] at c0 c1' c2' c3 hok
            simp only at c0 c1' c2' c3
            obtain ⟨ic, is, iv⟩ := sessOk_in hok
            have lc := itoa_le c (by omega) (by omega)
            have ls := itoa_le s (by omega) (by omega)
            have lv := itoa_le v (by omega) (by omega)
            have lX : (T ++ fmtXs (L2.take k)).length ≤ 300000000 := by have := fmtXs_len HM.out k; rw [List.length_append]; omega
            generalize T ++ fmtXs (L2.take k) = S at HS lX
            clear hc hsg hok y0 y1 lT HS0
            have e1 : ¬ (9223372036854775807 < S.length + 1) := by omega
            have e2 : ¬ (9223372036854775807 < S.length + 1 + (Lib.itoa c).length) := by omega
            have e3 : ¬ (9223372036854775807 < S.length + 1 + (Lib.itoa c).length + 1) := by omega
            have e4 : ¬ (9223372036854775807 < S.length + 1 + (Lib.itoa c).length + 1 + (Lib.itoa s).length) := by omega
            have e5 : ¬ (9223372036854775807 < S.length + 1 + (Lib.itoa c).length + 1 + (Lib.itoa s).length + 1) := by omega
            have e6 : ¬ (9223372036854775807 < S.length + 1 + (Lib.itoa c).length + 1 + (Lib.itoa s).length + 1 + (Lib.itoa v).length) := by omega
            cases d
            · skip
              go_wp2_with fail
              obtain ⟨wy, hwy⟩ : ∃ W, W = wr.alloc (.cells #[.int .i64 c, .int .i64 s, .bool false, .int .i64 v] 120) := ⟨_, rfl⟩
              rw [← hwy]
              obtain ⟨pb, hpb⟩ : ∃ p, p = wr.heap.size := ⟨_, rfl⟩
              rw [← hpb]
              have z0 : wy.cell? ⟨pb, 0, none⟩ = some (.int .i64 c) := by rw [hwy, hpb, World.cell?_alloc_at _ _ _ _ rfl]; rfl
              have z1 : wy.cell? ⟨pb, 1, none⟩ = some (.int .i64 s) := by rw [hwy, hpb, World.cell?_alloc_at _ _ _ _ rfl]; rfl
              have z3 : wy.cell? ⟨pb, 3, none⟩ = some (.int .i64 v) := by rw [hwy, hpb, World.cell?_alloc_at _ _ _ _ rfl]; rfl
              have hby : Below wr.heap.size wr wy := by rw [hwy]; exact (Below.refl _ _).alloc (Nat.le_refl _) _
              have hpy : pb < wy.heap.size := by rw [hwy, hpb]; simp
              have HQ3 := Lib.hid (HQ2.out.trans (hby.mono hsq))
              have hz0 : wy.heap.size ≤ wy.heap.size := Nat.le_refl _
              obtain ⟨W0, HW0⟩ : ∃ W, Hid (W = wy) := ⟨_, Lib.hid rfl⟩
              have hk0 : Below W0.heap.size W0 wy ∧ (∀ b o, b < W0.heap.size → wy.cell? ⟨b, o, none⟩ = W0.cell? ⟨b, o, none⟩) := by rw [← HW0.out]; exact kept_of (Below.refl _ _)
              rw [← HW0.out] at z0 z1 z3 hpy hz0
              clear hwy hpb hby c0 c1' c2' c3 q1
              go_region_held3 (fun w' => Below W0.heap.size W0 w' ∧ (∀ b o, b < W0.heap.size → w'.cell? ⟨b, o, none⟩ = W0.cell? ⟨b, o, none⟩)) (first | (with_reducible assumption) | ((with_reducible refine kept_drew ?_); with_reducible assumption) | ((with_reducible refine kept_next (w := ?_) ?_ ?_ hz0); rotate_left; with_reducible assumption; with_reducible assumption)) (first | (go_at_call 46; refine (specFormatInt _ _ (by omega) (by omega)).mono ?_; rintro e w3 ⟨rfl, hb3⟩))
              all_goals
                clear e1 e2 e3 e4 e5 e6 z0 z1 z3
                rename_i hk2'
                have HQ4 := Lib.hid (HQ3.out.trans (by rw [HW0.out] at hk2'; exact hk2'.1.mono HQ3.out.size))
                clear hk2' hk0
                go_wp2_with fail
                go_roundw
                case rel => exact ⟨k + 1, by omega, by go_num, by rw [HS.out]; exact congrArg Value.string (by apply ByteArray.ext; apply Array.ext'; simp [fmtX, sgn]), HQ4⟩
                case measure => simp [intOf]; omega
            · skip
              go_wp2_with fail
              obtain ⟨wy, hwy⟩ : ∃ W, W = wr.alloc (.cells #[.int .i64 c, .int .i64 s, .bool true, .int .i64 v] 120) := ⟨_, rfl⟩
              rw [← hwy]
              obtain ⟨pb, hpb⟩ : ∃ p, p = wr.heap.size := ⟨_, rfl⟩
              rw [← hpb]
              have z0 : wy.cell? ⟨pb, 0, none⟩ = some (.int .i64 c) := by rw [hwy, hpb, World.cell?_alloc_at _ _ _ _ rfl]; rfl
              have z1 : wy.cell? ⟨pb, 1, none⟩ = some (.int .i64 s) := by rw [hwy, hpb, World.cell?_alloc_at _ _ _ _ rfl]; rfl
              have z3 : wy.cell? ⟨pb, 3, none⟩ = some (.int .i64 v) := by rw [hwy, hpb, World.cell?_alloc_at _ _ _ _ rfl]; rfl
              have hby : Below wr.heap.size wr wy := by rw [hwy]; exact (Below.refl _ _).alloc (Nat.le_refl _) _
              have hpy : pb < wy.heap.size := by rw [hwy, hpb]; simp
              have HQ3 := Lib.hid (HQ2.out.trans (hby.mono hsq))
              have hz0 : wy.heap.size ≤ wy.heap.size := Nat.le_refl _
              obtain ⟨W0, HW0⟩ : ∃ W, Hid (W = wy) := ⟨_, Lib.hid rfl⟩
              have hk0 : Below W0.heap.size W0 wy ∧ (∀ b o, b < W0.heap.size → wy.cell? ⟨b, o, none⟩ = W0.cell? ⟨b, o, none⟩) := by rw [← HW0.out]; exact kept_of (Below.refl _ _)
              rw [← HW0.out] at z0 z1 z3 hpy hz0
              clear hwy hpb hby c0 c1' c2' c3 q1
              go_region_held3 (fun w' => Below W0.heap.size W0 w' ∧ (∀ b o, b < W0.heap.size → w'.cell? ⟨b, o, none⟩ = W0.cell? ⟨b, o, none⟩)) (first | (with_reducible assumption) | ((with_reducible refine kept_drew ?_); with_reducible assumption) | ((with_reducible refine kept_next (w := ?_) ?_ ?_ hz0); rotate_left; with_reducible assumption; with_reducible assumption)) (first | (go_at_call 46; refine (specFormatInt _ _ (by omega) (by omega)).mono ?_; rintro e w3 ⟨rfl, hb3⟩))
              all_goals
                clear e1 e2 e3 e4 e5 e6 z0 z1 z3
                rename_i hk2'
                have HQ4 := Lib.hid (HQ3.out.trans (by rw [HW0.out] at hk2'; exact hk2'.1.mono HQ3.out.size))
                clear hk2' hk0
                go_wp2_with fail
                go_roundw
                case rel => exact ⟨k + 1, by omega, by go_num, by rw [HS.out]; exact congrArg Value.string (by apply ByteArray.ext; apply Array.ext'; simp [fmtX, sgn]), HQ4⟩
                case measure => simp [intOf]; omega
          · obtain rfl : k = L2.length := by omega
            have HX := Lib.hid (show T ++ fmtXs (L2.take L2.length) = fmtM L1 L2 by rw [List.take_length, HF.out, HS0.out])
            generalize T ++ fmtXs (L2.take L2.length) = S at HX
            go_wp2_with fail
            go_ret
            exact ⟨by rw [← HX.out]; rfl, HBq.out⟩
  · rw [decide_eq_false hm] at jv
    have HF := Lib.hid (show fmtM L1 L2 = [] by unfold fmtM; rw [if_neg hm])
    have JV := Lib.hid jv
    clear hm jv
    go_enter Tryz.func47, Tryz.ntmps47
    go_wp2_with fail
    rw [← HW.out]
    refine JV.out.mono ?_
    rintro e w1 ⟨rfl, hb⟩
    go_wp2_with fail
    go_ret
    exact ⟨by rw [HF.out]; rfl, HB.out.trans (hb.mono HB.out.size)⟩
set_option maxRecDepth 100000 in
set_option maxHeartbeats 8000000 in
theorem implFormatSession (c s : Int) (d : Bool) (v : Int) (w : World) (hok : sessOk (c, s, d, v) = true) (hT : Tab w) :
    Calls Tryz.prog 80 #[.agg #[.int .i64 c, .int .i64 s, .bool d, .int .i64 v]] w fun e w' => e = .returned (str (fmtX (c, s, d, v))) ∧ Below w.heap.size w w' := by
  obtain ⟨ic, is, iv⟩ := sessOk_in hok
  have lc := itoa_le c (by omega) (by omega)
  have ls := itoa_le s (by omega) (by omega)
  have lv := itoa_le v (by omega) (by omega)
  have e1 : ¬ (9223372036854775807 < (Lib.itoa c).length + 1) := by omega
  have e2 : ¬ (9223372036854775807 < (Lib.itoa c).length + 1 + (Lib.itoa s).length) := by omega
  have e3 : ¬ (9223372036854775807 < (Lib.itoa c).length + 1 + (Lib.itoa s).length + 1) := by omega
  have e4 : ¬ (9223372036854775807 < (Lib.itoa c).length + 1 + (Lib.itoa s).length + 1 + (Lib.itoa v).length) := by omega
  clear hok
  cases d
  · skip
    obtain ⟨WB, hWB⟩ : ∃ W, W = w.alloc (.cells #[.int .i64 c, .int .i64 s, .bool false, .int .i64 v] 120) := ⟨_, rfl⟩
    have z0 : WB.cell? ⟨w.heap.size, 0, none⟩ = some (.int .i64 c) := by rw [hWB, World.cell?_alloc_at _ _ _ _ rfl]; rfl
    have z1 : WB.cell? ⟨w.heap.size, 1, none⟩ = some (.int .i64 s) := by rw [hWB, World.cell?_alloc_at _ _ _ _ rfl]; rfl
    have z2 : WB.cell? ⟨w.heap.size, 2, none⟩ = some (.bool false) := by rw [hWB, World.cell?_alloc_at _ _ _ _ rfl]; rfl
    have z3 : WB.cell? ⟨w.heap.size, 3, none⟩ = some (.int .i64 v) := by rw [hWB, World.cell?_alloc_at _ _ _ _ rfl]; rfl
    have hA : Below w.heap.size w WB := by rw [hWB]; exact (Below.refl _ _).alloc (Nat.le_refl _) _
    have hlt : w.heap.size < WB.heap.size := by rw [hWB]; simp
    have HWB := Lib.hid hWB
    have hz0 : WB.heap.size ≤ WB.heap.size := Nat.le_refl _
    have HT : ∀ W, (Below WB.heap.size WB W ∧ (∀ b o, b < WB.heap.size → W.cell? ⟨b, o, none⟩ = WB.cell? ⟨b, o, none⟩)) → Tab W := fun W h => hT.below (hA.trans (h.1.mono (Nat.le_of_lt hlt)))
    have hk0 : Below WB.heap.size WB WB ∧ (∀ b o, b < WB.heap.size → WB.cell? ⟨b, o, none⟩ = WB.cell? ⟨b, o, none⟩) := kept_of (Below.refl _ _)
    clear hWB
    go_enter Tryz.func80, Tryz.ntmps80
    go_wp2_with fail
    rw [← HWB.out]
    go_wp2_with fail
    obtain ⟨W0, HW0⟩ : ∃ W, Hid (W = WB) := ⟨_, Lib.hid rfl⟩
    rw [← HW0.out] at hk0 HT hz0 hlt
    have hk1 : Below W0.heap.size W0 WB ∧ (∀ b o, b < W0.heap.size → WB.cell? ⟨b, o, none⟩ = W0.cell? ⟨b, o, none⟩) := by rw [HW0.out]; exact kept_of (Below.refl _ _)
    rw [← HW0.out] at z0 z1 z2 z3
    clear hk0
    go_region_held3 (fun w' => Below W0.heap.size W0 w' ∧ (∀ b o, b < W0.heap.size → w'.cell? ⟨b, o, none⟩ = W0.cell? ⟨b, o, none⟩)) (first | (with_reducible assumption) | ((with_reducible refine kept_drew ?_); with_reducible assumption) | ((with_reducible refine kept_next (w := ?_) ?_ ?_ hz0); rotate_left; with_reducible assumption; with_reducible assumption)) (first | (go_at_call 40; refine (implFormatInt _ _ (by omega) (by omega) (HT _ (by with_reducible assumption))).mono ?_; rintro e w3 ⟨rfl, hb3⟩))
    all_goals
      clear e1 e2 e3 e4 z0 z1 z2 z3
      rename_i hk2
      have HQ := Lib.hid (hA.trans (by rw [HW0.out] at hk2; exact hk2.1.mono hA.size))
      clear hk2 hk1 HT
      go_wp2_with fail
      go_ret
      exact ⟨congrArg (fun x => Ending.returned (Value.string x)) (by apply ByteArray.ext; apply Array.ext'; simp [fmtX, sgn]), HQ.out⟩
  · skip
    obtain ⟨WB, hWB⟩ : ∃ W, W = w.alloc (.cells #[.int .i64 c, .int .i64 s, .bool true, .int .i64 v] 120) := ⟨_, rfl⟩
    have z0 : WB.cell? ⟨w.heap.size, 0, none⟩ = some (.int .i64 c) := by rw [hWB, World.cell?_alloc_at _ _ _ _ rfl]; rfl
    have z1 : WB.cell? ⟨w.heap.size, 1, none⟩ = some (.int .i64 s) := by rw [hWB, World.cell?_alloc_at _ _ _ _ rfl]; rfl
    have z2 : WB.cell? ⟨w.heap.size, 2, none⟩ = some (.bool true) := by rw [hWB, World.cell?_alloc_at _ _ _ _ rfl]; rfl
    have z3 : WB.cell? ⟨w.heap.size, 3, none⟩ = some (.int .i64 v) := by rw [hWB, World.cell?_alloc_at _ _ _ _ rfl]; rfl
    have hA : Below w.heap.size w WB := by rw [hWB]; exact (Below.refl _ _).alloc (Nat.le_refl _) _
    have hlt : w.heap.size < WB.heap.size := by rw [hWB]; simp
    have HWB := Lib.hid hWB
    have hz0 : WB.heap.size ≤ WB.heap.size := Nat.le_refl _
    have HT : ∀ W, (Below WB.heap.size WB W ∧ (∀ b o, b < WB.heap.size → W.cell? ⟨b, o, none⟩ = WB.cell? ⟨b, o, none⟩)) → Tab W := fun W h => hT.below (hA.trans (h.1.mono (Nat.le_of_lt hlt)))
    have hk0 : Below WB.heap.size WB WB ∧ (∀ b o, b < WB.heap.size → WB.cell? ⟨b, o, none⟩ = WB.cell? ⟨b, o, none⟩) := kept_of (Below.refl _ _)
    clear hWB
    go_enter Tryz.func80, Tryz.ntmps80
    go_wp2_with fail
    rw [← HWB.out]
    go_wp2_with fail
    obtain ⟨W0, HW0⟩ : ∃ W, Hid (W = WB) := ⟨_, Lib.hid rfl⟩
    rw [← HW0.out] at hk0 HT hz0 hlt
    have hk1 : Below W0.heap.size W0 WB ∧ (∀ b o, b < W0.heap.size → WB.cell? ⟨b, o, none⟩ = W0.cell? ⟨b, o, none⟩) := by rw [HW0.out]; exact kept_of (Below.refl _ _)
    rw [← HW0.out] at z0 z1 z2 z3
    clear hk0
    go_region_held3 (fun w' => Below W0.heap.size W0 w' ∧ (∀ b o, b < W0.heap.size → w'.cell? ⟨b, o, none⟩ = W0.cell? ⟨b, o, none⟩)) (first | (with_reducible assumption) | ((with_reducible refine kept_drew ?_); with_reducible assumption) | ((with_reducible refine kept_next (w := ?_) ?_ ?_ hz0); rotate_left; with_reducible assumption; with_reducible assumption)) (first | (go_at_call 40; refine (implFormatInt _ _ (by omega) (by omega) (HT _ (by with_reducible assumption))).mono ?_; rintro e w3 ⟨rfl, hb3⟩))
    all_goals
      clear e1 e2 e3 e4 z0 z1 z2 z3
      rename_i hk2
      have HQ := Lib.hid (hA.trans (by rw [HW0.out] at hk2; exact hk2.1.mono hA.size))
      clear hk2 hk1 HT
      go_wp2_with fail
      go_ret
      exact ⟨congrArg (fun x => Ending.returned (Value.string x)) (by apply ByteArray.ext; apply Array.ext'; simp [fmtX, sgn]), HQ.out⟩
theorem IsB.later {B b : Nat} {bs : List Value} {w w' : World} (h : IsB B b bs w) (hb : Below w.heap.size w w') : IsB B b bs w' := by
  have one : ∀ p, Lib.BuilderAt 88 5 B b p bs w → Lib.BuilderAt 88 5 B b p bs w' := by
    rintro p ⟨h1, v, h2, h3, h4⟩
    exact ⟨h1, v, (hb.block b (Array.getElem?_eq_some_iff.1 h2).1).trans h2, ⟨h3.1, h3.2.imp id (fun ⟨g, c, cur, hv, hg, hh, r⟩ => ⟨g, c, cur, hv, hg, (hb.block g (Array.getElem?_eq_some_iff.1 hh).1).trans hh, r⟩)⟩, h4⟩
  exact h.imp (one _) (one _)
theorem byteCells_app (a b : List UInt8) : Lib.byteCells a ++ Lib.byteCells b = Lib.byteCells (a ++ b) := by simp [Lib.byteCells]
theorem byteCells_len (a : List UInt8) : (Lib.byteCells a).length = a.length := by simp [Lib.byteCells]
theorem isB_new (w : World) : IsB w.heap.size w.heap.size (Lib.byteCells []) (w.alloc (.cells #[.pointer none, .slice none 0 0] 88)) :=
  .inl ⟨Nat.le_refl _, .slice none 0 0, heap_alloc_new w _, World.ownsRow_nil _ _ _ _, by simp [Value.ownBlock]⟩
set_option maxRecDepth 100000 in
set_option maxHeartbeats 8000000 in
theorem implFormatMachineA (a1 : Option Addr) (c1 : Nat) (L1 : List Int) (a2 : Option Addr) (c2 : Nat) (L2 : List Sess) (w : World) (h1 : L1.length ≤ 4194304) (h2 : L2.length ≤ 4194304) (ha1 : At w a1 L1) (ha2 : AtS w a2 L2) (hT : Tab w) :
    Calls Tryz.prog 41 #[.agg #[.slice a1 L1.length c1, .slice a2 L2.length c2]] w fun e w' => e = .returned (str (fmtM L1 L2)) ∧ Below w.heap.size w w' := by
  obtain ⟨WB, hWB⟩ : ∃ W, W = w.alloc (.cells #[.slice a1 L1.length c1, .slice a2 L2.length c2] 30) := ⟨_, rfl⟩
  have x0 : WB.cell? ⟨w.heap.size, 0, none⟩ = some (.slice a1 L1.length c1) := by rw [hWB, World.cell?_alloc_at _ _ _ _ rfl]; rfl
  have x1 : WB.cell? ⟨w.heap.size, 1, none⟩ = some (.slice a2 L2.length c2) := by rw [hWB, World.cell?_alloc_at _ _ _ _ rfl]; rfl
  have HB := Lib.hid (show Below w.heap.size w WB by rw [hWB]; exact (Below.refl _ _).alloc (Nat.le_refl _) _)
  have hlt : w.heap.size < WB.heap.size := by rw [hWB]; simp
  have HW := Lib.hid hWB
  clear hWB
  have jv := implIsValidMachineA a1 c1 L1 a2 c2 L2 WB h1 h2 (ha1.later HB.out) (ha2.later HB.out)
  have HA1 := Lib.hid ha1
  have HA2 := Lib.hid ha2
  clear ha1 ha2
  by_cases hm : MOk L1 L2
  · rw [decide_eq_true hm] at jv
    have HM := Lib.hid hm
    have HF := Lib.hid (show fmtM L1 L2 = fmtOs L1 ++ fmtXs L2 by unfold fmtM; rw [if_pos hm])
    have JV := Lib.hid jv
    clear hm jv
    go_enter Tryz.func41, Tryz.ntmps41
    go_wp2_with fail
    rw [← HW.out]
    refine JV.out.mono ?_
    rintro e w1 ⟨rfl, hb⟩
    replace x0 := (hb.cell (p := ⟨w.heap.size, 0, none⟩) hlt).trans x0
    replace x1 := (hb.cell (p := ⟨w.heap.size, 1, none⟩) hlt).trans x1
    replace hlt := Nat.lt_of_lt_of_le hlt hb.size
    replace HB := Lib.hid (HB.out.trans (hb.mono HB.out.size))
    clear hb JV HW
    have hnw : Below w1.heap.size w1 (w1.alloc (.cells #[.pointer none, .slice none 0 0] 88)) := (Below.refl _ _).alloc (Nat.le_refl _) _
    have HI := Lib.hid (isB_new w1)
    have HN := Lib.hid hnw
    have xx1 := (hnw.cell (p := ⟨w.heap.size, 1, none⟩) hlt).trans x1
    have xx0 := (hnw.cell (p := ⟨w.heap.size, 0, none⟩) hlt).trans x0
    clear hnw x0 x1
    go_wp2_with fail
    go_loopw [14] (fun i wr => ∃ k : Nat, k ≤ L1.length ∧ i = .int .i64 k ∧ Hid (IsB w1.heap.size w1.heap.size (Lib.byteCells (fmtOs (L1.take k))) wr) ∧ Hid (Below w1.heap.size w1 wr)) (fun i _ => L1.length - (intOf i).toNat)
    case atStart => exact ⟨0, Nat.zero_le _, rfl, Lib.hid (by have := HI.out; simpa [fmtOs] using this), HN⟩
    case round =>
      obtain ⟨k, hk, rfl, HI1, HQ⟩ := hrel
      have hsz := HQ.out.size
      have HBr := Lib.hid (HB.out.trans (HQ.out.mono HB.out.size))
      by_cases hlt1 : k < L1.length
      · obtain ⟨x, rfl, _, hc⟩ := (HA1.out.later HBr.out) k hlt1
        have hv := okV_in' (HM.out.2.1 k hlt1)
        have HS := Lib.hid (fmtOs_snoc L1 k hlt1)
        have lS := fmtOs_len HM.out k
        generalize L1.getD k 0 = z at hc hv HS
        generalize fmtOs (L1.take k) = T at lS HS HI1
        have lz := itoa_le z (by omega) (by omega)
        clear xx0 xx1
        go_wp2_with fail
        refine (implFormatInt z wr (by omega) (by omega) (hT.below HBr.out)).mono ?_
        rintro e w2 ⟨rfl, hb2⟩
        have HI2 := Lib.hid (IsB.later HI1.out hb2)
        have HQ2 := Lib.hid (HQ.out.trans (hb2.mono hsz))
        clear hb2 hc hsz
        go_wp2_with fail
        refine (writeString w1.heap.size w1.heap.size _ ⟨(Lib.itoa z).toArray⟩ w2 HI2.out (by rw [byteCells_len]; simp [ByteArray.size]; omega) HQ2.out.size).mono ?_
        rintro e w3 ⟨rfl, hI3, hb3⟩
        rw [Lib.strCells_toArray, byteCells_app, ← HS.out] at hI3
        have HI3 := Lib.hid hI3
        have HQ3 := Lib.hid (HQ2.out.trans hb3)
        clear hI3 hb3
        go_wp2_with fail
        go_roundw
        case rel => exact ⟨k + 1, by omega, by go_num, HI3, HQ3⟩
        case measure => simp [intOf]; omega
      · obtain rfl : k = L1.length := by omega
        have y1 := (HQ.out.cell (p := ⟨w.heap.size, 1, none⟩) hlt).trans ((HN.out.cell (p := ⟨w.heap.size, 1, none⟩) hlt).symm.trans xx1)
        have HS0 := Lib.hid (show fmtOs (L1.take L1.length) = fmtOs L1 by rw [List.take_length])
        have lT := fmtOs_len HM.out L1.length
        generalize fmtOs (L1.take L1.length) = T at HS0 lT HI1
        clear xx0 xx1
        go_wp2_with fail
        go_loopw [25] (fun i wq => ∃ k : Nat, k ≤ L2.length ∧ i = .int .i64 k ∧ Hid (IsB w1.heap.size w1.heap.size (Lib.byteCells (T ++ fmtXs (L2.take k))) wq) ∧ Hid (Below w1.heap.size w1 wq)) (fun i _ => L2.length - (intOf i).toNat)
        case atStart => exact ⟨0, Nat.zero_le _, rfl, Lib.hid (by have := HI1.out; simpa [fmtXs] using this), HQ⟩
        case round =>
          clear y1 HI1 HQ hsz HBr
          obtain ⟨k, hk2, rfl, HI1, HQ⟩ := hrel
          have hsz := HQ.out.size
          have HBr := Lib.hid (HB.out.trans (HQ.out.mono HB.out.size))
          by_cases hlt2 : k < L2.length
          · obtain ⟨g, o, rfl, hg, hc⟩ := HA2.out k hlt2
            obtain ⟨c0, c1', c2', c3⟩ := hc.below HBr.out hg
            obtain ⟨c, s, d, v, hsg⟩ : ∃ c s d v, sg L2 k = (c, s, d, v) := ⟨_, _, _, _, rfl⟩
            have hok := (HM.out.2.2 k hlt2).1
            have HS := Lib.hid (show T ++ fmtXs (L2.take (k + 1)) = (T ++ fmtXs (L2.take k)) ++ ([32] ++ fmtX (c, s, d, v)) by rw [fmtXs_snoc L2 k hlt2, hsg, List.append_assoc])
            rw [hsg] at c0 c1' c2' c3 hok
            simp only at c0 c1' c2' c3
            obtain ⟨ic, is, iv⟩ := sessOk_in hok
            have lX : (T ++ fmtXs (L2.take k)).length ≤ 300000000 := by have := fmtXs_len HM.out k; rw [List.length_append]; omega
            have lF : (fmtX (c, s, d, v)).length ≤ 65 := by
              have lc := itoa_le c (by omega) (by omega)
              have ls := itoa_le s (by omega) (by omega)
              have lv := itoa_le v (by omega) (by omega)
              simp [fmtX]; omega
            generalize T ++ fmtXs (L2.take k) = S at HS lX HI1
            have HOK := Lib.hid hok
            have JF := fun W hW => Lib.hid (implFormatSession c s d v W HOK.out hW)
            generalize fmtX (c, s, d, v) = X at JF lF HS
            have e1 : ¬ (9223372036854775807 < 1 + X.length) := by omega
            clear hc hsg hok
            go_wp2_with fail
            refine ((JF _ (hT.below (HBr.out.alloc HBr.out.size _))).out).mono ?_
            rintro e w2 ⟨rfl, hb2⟩
            have hal : Below wr.heap.size wr w2 := below1 hb2 (by simp)
            have HI2 := Lib.hid (IsB.later HI1.out hal)
            have HQ2 := Lib.hid (HQ.out.trans (hal.mono hsz))
            clear hb2 hal c0 c1' c2' c3 hsz
            go_wp2_with fail
            have hstr : Value.string ((⟨#[32]⟩ : ByteArray) ++ (⟨X.toArray⟩ : ByteArray)) = str ([32] ++ X) := str_app [32] X
            rw [hstr]
            clear hstr
            have hlen : (Lib.byteCells S).length + (⟨([32] ++ X).toArray⟩ : ByteArray).size ≤ 140737488355328 := by rw [byteCells_len]; show S.length + ([32] ++ X).toArray.size ≤ _; rw [List.size_toArray, List.length_append]; simp only [List.length_cons, List.length_nil]; omega
            refine (writeString w1.heap.size w1.heap.size _ _ w2 HI2.out hlen HQ2.out.size).mono ?_
            clear hlen
            rintro e w3 ⟨rfl, hI3, hb3⟩
            rw [Lib.strCells_toArray, byteCells_app, ← HS.out] at hI3
            have HI3 := Lib.hid hI3
            have HQ3 := Lib.hid (HQ2.out.trans hb3)
            clear hI3 hb3 JF
            go_wp2_with fail
            go_roundw
            case rel => exact ⟨k + 1, by omega, by go_num, HI3, HQ3⟩
            case measure => simp [intOf]; omega
          · obtain rfl : k = L2.length := by omega
            have HX := Lib.hid (show T ++ fmtXs (L2.take L2.length) = fmtM L1 L2 by rw [List.take_length, HF.out, HS0.out])
            rw [HX.out] at HI1
            go_wp2_with fail
            refine (Tryz.Builder_String_any w1.heap.size w1.heap.size (fmtM L1 L2) wr HI1.out hsz).mono ?_
            rintro e w4 ⟨rfl, hb4⟩
            go_wp2_with fail
            go_ret
            exact ⟨rfl, HBr.out.trans (hb4.mono HB.out.size)⟩
  · rw [decide_eq_false hm] at jv
    have HF := Lib.hid (show fmtM L1 L2 = [] by unfold fmtM; rw [if_neg hm])
    have JV := Lib.hid jv
    clear hm jv
    go_enter Tryz.func41, Tryz.ntmps41
    go_wp2_with fail
    rw [← HW.out]
    refine JV.out.mono ?_
    rintro e w1 ⟨rfl, hb⟩
    go_wp2_with fail
    go_ret
    exact ⟨by rw [HF.out]; rfl, HB.out.trans (hb.mono HB.out.size)⟩
theorem specFormatMachine (b1 b2 : Nat) (v1 v2 : Value) (L1 : List Int) (L2 : List Sess) (w : World) (h1 : L1.length ≤ 4194304) (h2 : L2.length ≤ 4194304) (o1 : OwnI b1 w v1 L1) (o2 : OwnS b2 w v2 L2) :
    Calls Tryz.prog 47 #[.agg #[v1, v2]] w fun e w' => e = .returned (.string ⟨(fmtM L1 L2).toArray⟩) ∧ Below w.heap.size w w' := by
  obtain ⟨a1, c1, rfl, _, _, t1, _⟩ := o1.form
  obtain ⟨a2, c2, rfl, _, _, t2, _⟩ := o2.form
  exact specFormatMachineA a1 c1 L1 a2 c2 L2 w h1 h2 t1 t2
theorem implFormatMachine (b1 b2 : Nat) (v1 v2 : Value) (L1 : List Int) (L2 : List Sess) (w : World) (h1 : L1.length ≤ 4194304) (h2 : L2.length ≤ 4194304) (o1 : OwnI b1 w v1 L1) (o2 : OwnS b2 w v2 L2) (hT : Tab w) :
    Calls Tryz.prog 41 #[.agg #[v1, v2]] w fun e w' => e = .returned (.string ⟨(fmtM L1 L2).toArray⟩) ∧ Below w.heap.size w w' := by
  obtain ⟨a1, c1, rfl, _, _, t1, _⟩ := o1.form
  obtain ⟨a2, c2, rfl, _, _, t2, _⟩ := o2.form
  exact implFormatMachineA a1 c1 L1 a2 c2 L2 w h1 h2 t1 t2 hT
end Go.Proofs.YtpdpejlcilnafaaGreatDoor.kit
namespace Go.Proofs.YtpdpejlcilnafaaGreatDoor.kit
open Go.ChangeShapes Go.WideShapes Go.ChangeAt Go.RowKit
set_option linter.unusedVariables false

def NOk (x y : Int) (L1 : List Int) (L2 : List Sess) : Prop := (0 ≤ x ∧ x ≤ 16) ∧ (0 ≤ y ∧ y ≤ 9972) ∧ MOk L1 L2
instance (x y : Int) (L1 : List Int) (L2 : List Sess) : Decidable (NOk x y L1 L2) := inferInstanceAs (Decidable (_ ∧ _ ∧ _))
def fmtN (x y : Int) (L1 : List Int) (L2 : List Sess) : List UInt8 := if NOk x y L1 L2 then Lib.itoa x ++ [44] ++ Lib.itoa y ++ [44] ++ fmtM L1 L2 else []
theorem fmtM_len (L1 : List Int) (L2 : List Sess) (h2 : L2.length ≤ 4194304) : (fmtM L1 L2).length ≤ 300000000 := by
  unfold fmtM
  split
  · rename_i h
    have a := fmtOs_len h L1.length
    have b := fmtXs_len h L2.length
    rw [List.take_length] at a b
    rw [List.length_append]
    omega
  · simp
theorem specIsValidMachineS (b2 : Nat) (v1 v2 : Value) (L1 : List Int) (L2 : List Sess) (w : World) (h1 : L1.length ≤ 4194304) (h2 : L2.length ≤ 4194304) (o1 : SrcI w.heap.size w v1 L1) (o2 : OwnS b2 w v2 L2) :
    Calls Tryz.prog 85 #[.agg #[v1, v2]] w fun e w' => e = .returned (.bool (decide (MOk L1 L2))) ∧ Below w.heap.size w w' := by
  obtain ⟨a1, c1, rfl⟩ := o1.shape
  obtain ⟨a2, c2, rfl, _, _, t2, _⟩ := o2.form
  exact specIsValidMachineA a1 c1 L1 a2 c2 L2 w h1 h2 (o1.at (Nat.le_refl _)) t2
theorem implIsValidMachineS (b2 : Nat) (v1 v2 : Value) (L1 : List Int) (L2 : List Sess) (w : World) (h1 : L1.length ≤ 4194304) (h2 : L2.length ≤ 4194304) (o1 : SrcI w.heap.size w v1 L1) (o2 : OwnS b2 w v2 L2) :
    Calls Tryz.prog 78 #[.agg #[v1, v2]] w fun e w' => e = .returned (.bool (decide (MOk L1 L2))) ∧ Below w.heap.size w w' := by
  obtain ⟨a1, c1, rfl⟩ := o1.shape
  obtain ⟨a2, c2, rfl, _, _, t2, _⟩ := o2.form
  exact implIsValidMachineA a1 c1 L1 a2 c2 L2 w h1 h2 (o1.at (Nat.le_refl _)) t2
theorem specFormatMachineS (b2 : Nat) (v1 v2 : Value) (L1 : List Int) (L2 : List Sess) (w : World) (h1 : L1.length ≤ 4194304) (h2 : L2.length ≤ 4194304) (o1 : SrcI w.heap.size w v1 L1) (o2 : OwnS b2 w v2 L2) :
    Calls Tryz.prog 47 #[.agg #[v1, v2]] w fun e w' => e = .returned (str (fmtM L1 L2)) ∧ Below w.heap.size w w' := by
  obtain ⟨a1, c1, rfl⟩ := o1.shape
  obtain ⟨a2, c2, rfl, _, _, t2, _⟩ := o2.form
  exact specFormatMachineA a1 c1 L1 a2 c2 L2 w h1 h2 (o1.at (Nat.le_refl _)) t2
theorem implFormatMachineS (b2 : Nat) (v1 v2 : Value) (L1 : List Int) (L2 : List Sess) (w : World) (h1 : L1.length ≤ 4194304) (h2 : L2.length ≤ 4194304) (o1 : SrcI w.heap.size w v1 L1) (o2 : OwnS b2 w v2 L2) (hT : Tab w) :
    Calls Tryz.prog 41 #[.agg #[v1, v2]] w fun e w' => e = .returned (str (fmtM L1 L2)) ∧ Below w.heap.size w w' := by
  obtain ⟨a1, c1, rfl⟩ := o1.shape
  obtain ⟨a2, c2, rfl, _, _, t2, _⟩ := o2.form
  exact implFormatMachineA a1 c1 L1 a2 c2 L2 w h1 h2 (o1.at (Nat.le_refl _)) t2 hT
set_option maxRecDepth 100000 in
theorem specGoodV (x y : Int) (b2 : Nat) (v1 v2 : Value) (L1 : List Int) (L2 : List Sess) (w : World) (h1 : L1.length ≤ 4194304) (h2 : L2.length ≤ 4194304) (o1 : SrcI w.heap.size w v1 L1) (o2 : OwnS b2 w v2 L2) :
    Calls Tryz.prog 45 #[.agg #[.int .i64 x, .int .i64 y, v1, v2]] w fun e w' => e = .returned (.bool (decide (NOk x y L1 L2))) ∧ Below w.heap.size w w' := by
  have hB : Below w.heap.size w (w.alloc (.cells #[.int .i64 x, .int .i64 y, v1, v2] 32)) := (Below.refl _ _).alloc (Nat.le_refl _) _
  have j := specIsValidMachineS b2 v1 v2 L1 L2 _ h1 h2 (o1.srcLater hB) (o2.later hB)
  obtain ⟨a1, c1, rfl⟩ := o1.shape
  obtain ⟨a2, c2, rfl⟩ := o2.shape
  have HB := Lib.hid hB
  have Jx := Lib.hid (in_c x 0 16 (w.alloc (.cells #[.int .i64 x, .int .i64 y, .slice a1 L1.length c1, .slice a2 L2.length c2] 32)))
  have Jy := Lib.hid (in_c y 0 9972 (w.alloc (.cells #[.int .i64 x, .int .i64 y, .slice a1 L1.length c1, .slice a2 L2.length c2] 32)))
  clear o1 o2 hB
  by_cases e1 : 0 ≤ x ∧ x ≤ 16
  · rw [decide_eq_true e1] at Jx
    by_cases e2 : 0 ≤ y ∧ y ≤ 9972
    · rw [decide_eq_true e2] at Jy
      have HE := Lib.hid (show decide (NOk x y L1 L2) = decide (MOk L1 L2) by unfold NOk; simp [e1, e2])
      generalize decide (MOk L1 L2) = q at *
      clear e1 e2
      go_enter Tryz.func45, Tryz.ntmps45
      go_wp2_with fail
      refine Jx.out.mono ?_
      rintro e w1 ⟨rfl, rfl⟩
      go_wp2_with fail
      refine Jy.out.mono ?_
      rintro e w1 ⟨rfl, rfl⟩
      go_wp2_with fail
      refine j.mono ?_
      rintro e w1 ⟨rfl, hb⟩
      go_wp2_with fail
      go_ret
      exact ⟨by rw [HE.out]; rfl, HB.out.trans (hb.mono HB.out.size)⟩
    · rw [decide_eq_false e2] at Jy
      have HE := Lib.hid (show decide (NOk x y L1 L2) = false from decide_eq_false (fun h => e2 h.2.1))
      clear e1 e2 j
      go_enter Tryz.func45, Tryz.ntmps45
      go_wp2_with fail
      refine Jx.out.mono ?_
      rintro e w1 ⟨rfl, rfl⟩
      go_wp2_with fail
      refine Jy.out.mono ?_
      rintro e w1 ⟨rfl, rfl⟩
      go_wp2_with fail
      go_ret
      exact ⟨by rw [HE.out]; rfl, HB.out⟩
  · rw [decide_eq_false e1] at Jx
    have HE := Lib.hid (show decide (NOk x y L1 L2) = false from decide_eq_false (fun h => e1 h.1))
    clear e1 j Jy
    go_enter Tryz.func45, Tryz.ntmps45
    go_wp2_with fail
    refine Jx.out.mono ?_
    rintro e w1 ⟨rfl, rfl⟩
    go_wp2_with fail
    go_ret
    exact ⟨by rw [HE.out]; rfl, HB.out⟩
set_option maxRecDepth 100000 in
theorem implGoodV (x y : Int) (b2 : Nat) (v1 v2 : Value) (L1 : List Int) (L2 : List Sess) (w : World) (h1 : L1.length ≤ 4194304) (h2 : L2.length ≤ 4194304) (o1 : SrcI w.heap.size w v1 L1) (o2 : OwnS b2 w v2 L2) :
    Calls Tryz.prog 39 #[.agg #[.int .i64 x, .int .i64 y, v1, v2]] w fun e w' => e = .returned (.bool (decide (NOk x y L1 L2))) ∧ Below w.heap.size w w' := by
  have hB : Below w.heap.size w (w.alloc (.cells #[.int .i64 x, .int .i64 y, v1, v2] 32)) := (Below.refl _ _).alloc (Nat.le_refl _) _
  have j := implIsValidMachineS b2 v1 v2 L1 L2 _ h1 h2 (o1.srcLater hB) (o2.later hB)
  obtain ⟨a1, c1, rfl⟩ := o1.shape
  obtain ⟨a2, c2, rfl⟩ := o2.shape
  have HB := Lib.hid hB
  clear o1 o2 hB
  by_cases e1 : 0 ≤ x
  · have g1 : decide (x ≥ 0) = true := decide_eq_true e1
    by_cases e2 : x ≤ 16
    · have g2 : decide (x ≤ 16) = true := decide_eq_true e2
      by_cases e3 : 0 ≤ y
      · have g3 : decide (y ≥ 0) = true := decide_eq_true e3
        by_cases e4 : y < 9973
        · have g4 : decide (y < 9973) = true := decide_eq_true e4
          have HE := Lib.hid (show decide (NOk x y L1 L2) = decide (MOk L1 L2) by
            have e5 : y ≤ 9972 := by omega
            unfold NOk; simp [e1, e2, e3, e5])
          generalize decide (MOk L1 L2) = q at *
          clear e1 e2 e3 e4
          go_enter Tryz.func39, Tryz.ntmps39
          go_wp2_with fail
          refine j.mono ?_
          rintro e w1 ⟨rfl, hb⟩
          go_wp2_with fail
          go_ret
          exact ⟨by rw [HE.out]; rfl, HB.out.trans (hb.mono HB.out.size)⟩
        · have g4 : decide (y < 9973) = false := decide_eq_false e4
          have HE := Lib.hid (show decide (NOk x y L1 L2) = false from decide_eq_false (fun h => by unfold NOk at h; omega))
          clear j
          go_enter Tryz.func39, Tryz.ntmps39
          go_wp2_with fail
          go_ret
          exact ⟨by rw [HE.out]; rfl, HB.out⟩
      · have g3 : decide (y ≥ 0) = false := decide_eq_false e3
        have HE := Lib.hid (show decide (NOk x y L1 L2) = false from decide_eq_false (fun h => by unfold NOk at h; omega))
        clear j
        go_enter Tryz.func39, Tryz.ntmps39
        go_wp2_with fail
        go_ret
        exact ⟨by rw [HE.out]; rfl, HB.out⟩
    · have g2 : decide (x ≤ 16) = false := decide_eq_false e2
      have HE := Lib.hid (show decide (NOk x y L1 L2) = false from decide_eq_false (fun h => by unfold NOk at h; omega))
      clear j
      go_enter Tryz.func39, Tryz.ntmps39
      go_wp2_with fail
      go_ret
      exact ⟨by rw [HE.out]; rfl, HB.out⟩
  · have g1 : decide (x ≥ 0) = false := decide_eq_false e1
    have HE := Lib.hid (show decide (NOk x y L1 L2) = false from decide_eq_false (fun h => by unfold NOk at h; omega))
    clear j
    go_enter Tryz.func39, Tryz.ntmps39
    go_wp2_with fail
    go_ret
    exact ⟨by rw [HE.out]; rfl, HB.out⟩
set_option maxRecDepth 100000 in
set_option maxHeartbeats 2000000 in
theorem specSnapshotTextV (x y : Int) (b2 : Nat) (v1 v2 : Value) (L1 : List Int) (L2 : List Sess) (w : World) (h1 : L1.length ≤ 4194304) (h2 : L2.length ≤ 4194304) (o1 : SrcI w.heap.size w v1 L1) (o2 : OwnS b2 w v2 L2) :
    Calls Tryz.prog 13 #[.agg #[.int .i64 x, .int .i64 y, v1, v2]] w fun e w' => e = .returned (.string ⟨(fmtN x y L1 L2).toArray⟩) ∧ Below w.heap.size w w' := by
  obtain ⟨W, hW⟩ : ∃ W, W = w.alloc (.cells #[.int .i64 x, .int .i64 y, v1, v2] 32) := ⟨_, rfl⟩
  have hB : Below w.heap.size w W := by rw [hW]; exact (Below.refl _ _).alloc (Nat.le_refl _) _
  have p1 := o1.srcLater hB
  have p2 := o2.later hB
  have JG := Lib.hid (specGoodV x y b2 v1 v2 L1 L2 W h1 h2 p1 p2)
  have k0 : W.cell? ⟨w.heap.size, 0, none⟩ = some (.int .i64 x) := by rw [hW, World.cell?_alloc_at _ _ _ _ rfl]; rfl
  have k1 : W.cell? ⟨w.heap.size, 1, none⟩ = some (.int .i64 y) := by rw [hW, World.cell?_alloc_at _ _ _ _ rfl]; rfl
  have k2 : W.cell? ⟨w.heap.size, 2, none⟩ = some v1 := by rw [hW, World.cell?_alloc_at _ _ _ _ rfl]; rfl
  have k3 : W.cell? ⟨w.heap.size, 3, none⟩ = some v2 := by rw [hW, World.cell?_alloc_at _ _ _ _ rfl]; rfl
  have hlt : w.heap.size < W.heap.size := by rw [hW]; simp
  have P1 := Lib.hid p1
  have P2 := Lib.hid p2
  obtain ⟨a1, c1, rfl⟩ := o1.shape
  obtain ⟨a2, c2, rfl⟩ := o2.shape
  have HB := Lib.hid hB
  have HW := Lib.hid hW
  clear o1 o2 hB p1 p2 hW
  by_cases hN : NOk x y L1 L2
  · rw [decide_eq_true hN] at JG
    have HF := Lib.hid (show fmtN x y L1 L2 = Lib.itoa x ++ [44] ++ Lib.itoa y ++ [44] ++ fmtM L1 L2 from if_pos hN)
    unfold NOk at hN
    have lx := itoa_le x (by omega) (by omega)
    have ly := itoa_le y (by omega) (by omega)
    have lm := fmtM_len L1 L2 h2
    go_enter Tryz.func13, Tryz.ntmps13
    go_wp2_with fail
    rw [← HW.out]
    refine JG.out.mono ?_
    rintro e w1 ⟨rfl, hb⟩
    have j1 := fun (p : LaterOf w1) => specFormatInt x p.W (by omega) (by omega)
    have j2 := fun (p : LaterOf w1) => specFormatInt y p.W (by omega) (by omega)
    have j3 := fun (p : LaterOf w1) => specFormatMachineS b2 _ _ L1 L2 p.W h1 h2 ((P1.out.srcLater hb).srcLater p.h) ((P2.out.later hb).later p.h)
    have J1 : ∀ p : LaterOf w1, Hid _ := fun p => Lib.hid (j1 p)
    have J2 : ∀ p : LaterOf w1, Hid _ := fun p => Lib.hid (j2 p)
    have J3 : ∀ p : LaterOf w1, Hid _ := fun p => Lib.hid (j3 p)
    have hlt1 := Nat.lt_of_lt_of_le hlt hb.size
    have q0 := LaterOf.cell (a := ⟨w.heap.size, 0, none⟩) hlt1 ((hb.cell (p := ⟨w.heap.size, 0, none⟩) hlt).trans k0)
    have q1 := LaterOf.cell (a := ⟨w.heap.size, 1, none⟩) hlt1 ((hb.cell (p := ⟨w.heap.size, 1, none⟩) hlt).trans k1)
    have q2 := LaterOf.cell (a := ⟨w.heap.size, 2, none⟩) hlt1 ((hb.cell (p := ⟨w.heap.size, 2, none⟩) hlt).trans k2)
    have q3 := LaterOf.cell (a := ⟨w.heap.size, 3, none⟩) hlt1 ((hb.cell (p := ⟨w.heap.size, 3, none⟩) hlt).trans k3)
    replace HB := Lib.hid (HB.out.trans (hb.mono HB.out.size))
    clear hb k0 k1 k2 k3 j1 j2 j3 JG hN HW P1 P2
    generalize fmtM L1 L2 = fm at *
    generalize Lib.itoa x = fx at *
    generalize Lib.itoa y = fy at *
    have e0 : ¬ (9223372036854775807 < fx.length + 1) := by omega
    have e1 : ¬ (9223372036854775807 < fx.length + 1 + fy.length) := by omega
    have e2 : ¬ (9223372036854775807 < fx.length + 1 + fy.length + 1) := by omega
    have e3 : ¬ (9223372036854775807 < fx.length + 1 + fy.length + 1 + fm.length) := by omega
    go_wp2_with fail
    refine wp_region_later (by kernel_rfl) (by kernel_rfl) ?_
    repeat (go_big_quiet_step (first | (with_reducible exact Calls.later_of (J1 _).out) | (with_reducible exact Calls.later_of (J2 _).out) | (with_reducible exact Calls.later_of (J3 _).out)))
    refine wpQuiet_nil ?_
    intro _ hw'
    obtain ⟨⟨wz, hwz⟩, hw''⟩ := hw'
    subst hw''
    have HZ := Lib.hid (HB.out.trans (hwz.mono HB.out.size))
    clear hwz
    go_wp2_with fail
    go_ret
    exact ⟨by rw [HF.out]; exact congrArg (fun z => Ending.returned (Value.string z)) (by apply ByteArray.ext; apply Array.ext'; simp), HZ.out⟩
  · rw [decide_eq_false hN] at JG
    have HF := Lib.hid (show fmtN x y L1 L2 = [] from if_neg hN)
    clear hN
    go_enter Tryz.func13, Tryz.ntmps13
    go_wp2_with fail
    rw [← HW.out]
    refine JG.out.mono ?_
    rintro e w1 ⟨rfl, hb⟩
    go_wp2_with fail
    go_ret
    exact ⟨by rw [HF.out]; rfl, HB.out.trans (hb.mono HB.out.size)⟩
set_option maxRecDepth 100000 in
set_option maxHeartbeats 2000000 in
theorem implSnapshotTextV (x y : Int) (b2 : Nat) (v1 v2 : Value) (L1 : List Int) (L2 : List Sess) (w : World) (h1 : L1.length ≤ 4194304) (h2 : L2.length ≤ 4194304) (o1 : SrcI w.heap.size w v1 L1) (o2 : OwnS b2 w v2 L2) (hT : Tab w) :
    Calls Tryz.prog 11 #[.agg #[.int .i64 x, .int .i64 y, v1, v2]] w fun e w' => e = .returned (.string ⟨(fmtN x y L1 L2).toArray⟩) ∧ Below w.heap.size w w' := by
  obtain ⟨W, hW⟩ : ∃ W, W = w.alloc (.cells #[.int .i64 x, .int .i64 y, v1, v2] 32) := ⟨_, rfl⟩
  have hB : Below w.heap.size w W := by rw [hW]; exact (Below.refl _ _).alloc (Nat.le_refl _) _
  have p1 := o1.srcLater hB
  have p2 := o2.later hB
  have JG := Lib.hid (implGoodV x y b2 v1 v2 L1 L2 W h1 h2 p1 p2)
  have k0 : W.cell? ⟨w.heap.size, 0, none⟩ = some (.int .i64 x) := by rw [hW, World.cell?_alloc_at _ _ _ _ rfl]; rfl
  have k1 : W.cell? ⟨w.heap.size, 1, none⟩ = some (.int .i64 y) := by rw [hW, World.cell?_alloc_at _ _ _ _ rfl]; rfl
  have k2 : W.cell? ⟨w.heap.size, 2, none⟩ = some v1 := by rw [hW, World.cell?_alloc_at _ _ _ _ rfl]; rfl
  have k3 : W.cell? ⟨w.heap.size, 3, none⟩ = some v2 := by rw [hW, World.cell?_alloc_at _ _ _ _ rfl]; rfl
  have hlt : w.heap.size < W.heap.size := by rw [hW]; simp
  have P1 := Lib.hid p1
  have P2 := Lib.hid p2
  obtain ⟨a1, c1, rfl⟩ := o1.shape
  obtain ⟨a2, c2, rfl⟩ := o2.shape
  have HB := Lib.hid hB
  have HW := Lib.hid hW
  have HT := Lib.hid hT
  clear hT
  clear o1 o2 hB p1 p2 hW
  by_cases hN : NOk x y L1 L2
  · rw [decide_eq_true hN] at JG
    have HF := Lib.hid (show fmtN x y L1 L2 = Lib.itoa x ++ [44] ++ Lib.itoa y ++ [44] ++ fmtM L1 L2 from if_pos hN)
    unfold NOk at hN
    have lx := itoa_le x (by omega) (by omega)
    have ly := itoa_le y (by omega) (by omega)
    have lm := fmtM_len L1 L2 h2
    go_enter Tryz.func11, Tryz.ntmps11
    go_wp2_with fail
    rw [← HW.out]
    refine JG.out.mono ?_
    rintro e w1 ⟨rfl, hb⟩
    have j1 := fun (p : LaterOf w1) => implFormatInt x p.W (by omega) (by omega) (((HT.out.below HB.out).below hb).below p.h)
    have j2 := fun (p : LaterOf w1) => implFormatInt y p.W (by omega) (by omega) (((HT.out.below HB.out).below hb).below p.h)
    have j3 := fun (p : LaterOf w1) => implFormatMachineS b2 _ _ L1 L2 p.W h1 h2 ((P1.out.srcLater hb).srcLater p.h) ((P2.out.later hb).later p.h) (((HT.out.below HB.out).below hb).below p.h)
    have J1 : ∀ p : LaterOf w1, Hid _ := fun p => Lib.hid (j1 p)
    have J2 : ∀ p : LaterOf w1, Hid _ := fun p => Lib.hid (j2 p)
    have J3 : ∀ p : LaterOf w1, Hid _ := fun p => Lib.hid (j3 p)
    have hlt1 := Nat.lt_of_lt_of_le hlt hb.size
    have q0 := LaterOf.cell (a := ⟨w.heap.size, 0, none⟩) hlt1 ((hb.cell (p := ⟨w.heap.size, 0, none⟩) hlt).trans k0)
    have q1 := LaterOf.cell (a := ⟨w.heap.size, 1, none⟩) hlt1 ((hb.cell (p := ⟨w.heap.size, 1, none⟩) hlt).trans k1)
    have q2 := LaterOf.cell (a := ⟨w.heap.size, 2, none⟩) hlt1 ((hb.cell (p := ⟨w.heap.size, 2, none⟩) hlt).trans k2)
    have q3 := LaterOf.cell (a := ⟨w.heap.size, 3, none⟩) hlt1 ((hb.cell (p := ⟨w.heap.size, 3, none⟩) hlt).trans k3)
    replace HB := Lib.hid (HB.out.trans (hb.mono HB.out.size))
    clear hb k0 k1 k2 k3 j1 j2 j3 JG hN HW P1 P2 HT
    generalize fmtM L1 L2 = fm at *
    generalize Lib.itoa x = fx at *
    generalize Lib.itoa y = fy at *
    have e0 : ¬ (9223372036854775807 < fx.length + 1) := by omega
    have e1 : ¬ (9223372036854775807 < fx.length + 1 + fy.length) := by omega
    have e2 : ¬ (9223372036854775807 < fx.length + 1 + fy.length + 1) := by omega
    have e3 : ¬ (9223372036854775807 < fx.length + 1 + fy.length + 1 + fm.length) := by omega
    go_wp2_with fail
    refine wp_region_later (by kernel_rfl) (by kernel_rfl) ?_
    repeat (go_big_quiet_step (first | (with_reducible exact Calls.later_of (J1 _).out) | (with_reducible exact Calls.later_of (J2 _).out) | (with_reducible exact Calls.later_of (J3 _).out)))
    refine wpQuiet_nil ?_
    intro _ hw'
    obtain ⟨⟨wz, hwz⟩, hw''⟩ := hw'
    subst hw''
    have HZ := Lib.hid (HB.out.trans (hwz.mono HB.out.size))
    clear hwz
    go_wp2_with fail
    go_ret
    exact ⟨by rw [HF.out]; exact congrArg (fun z => Ending.returned (Value.string z)) (by apply ByteArray.ext; apply Array.ext'; simp), HZ.out⟩
  · rw [decide_eq_false hN] at JG
    have HF := Lib.hid (show fmtN x y L1 L2 = [] from if_neg hN)
    clear hN
    go_enter Tryz.func11, Tryz.ntmps11
    go_wp2_with fail
    rw [← HW.out]
    refine JG.out.mono ?_
    rintro e w1 ⟨rfl, hb⟩
    go_wp2_with fail
    go_ret
    exact ⟨by rw [HF.out]; rfl, HB.out.trans (hb.mono HB.out.size)⟩
theorem specGood (x y : Int) (b1 b2 : Nat) (v1 v2 : Value) (L1 : List Int) (L2 : List Sess) (w : World) (h1 : L1.length ≤ 4194304) (h2 : L2.length ≤ 4194304) (o1 : OwnI b1 w v1 L1) (o2 : OwnS b2 w v2 L2) :
    Calls Tryz.prog 45 #[.agg #[.int .i64 x, .int .i64 y, v1, v2]] w fun e w' => e = .returned (.bool (decide (NOk x y L1 L2))) ∧ Below w.heap.size w w' :=
  specGoodV x y b2 v1 v2 L1 L2 w h1 h2 (SrcI.own o1) o2
theorem implGood (x y : Int) (b1 b2 : Nat) (v1 v2 : Value) (L1 : List Int) (L2 : List Sess) (w : World) (h1 : L1.length ≤ 4194304) (h2 : L2.length ≤ 4194304) (o1 : OwnI b1 w v1 L1) (o2 : OwnS b2 w v2 L2) :
    Calls Tryz.prog 39 #[.agg #[.int .i64 x, .int .i64 y, v1, v2]] w fun e w' => e = .returned (.bool (decide (NOk x y L1 L2))) ∧ Below w.heap.size w w' :=
  implGoodV x y b2 v1 v2 L1 L2 w h1 h2 (SrcI.own o1) o2
theorem specSnapshotText (x y : Int) (b1 b2 : Nat) (v1 v2 : Value) (L1 : List Int) (L2 : List Sess) (w : World) (h1 : L1.length ≤ 4194304) (h2 : L2.length ≤ 4194304) (o1 : OwnI b1 w v1 L1) (o2 : OwnS b2 w v2 L2) :
    Calls Tryz.prog 13 #[.agg #[.int .i64 x, .int .i64 y, v1, v2]] w fun e w' => e = .returned (.string ⟨(fmtN x y L1 L2).toArray⟩) ∧ Below w.heap.size w w' :=
  specSnapshotTextV x y b2 v1 v2 L1 L2 w h1 h2 (SrcI.own o1) o2
theorem implSnapshotText (x y : Int) (b1 b2 : Nat) (v1 v2 : Value) (L1 : List Int) (L2 : List Sess) (w : World) (h1 : L1.length ≤ 4194304) (h2 : L2.length ≤ 4194304) (o1 : OwnI b1 w v1 L1) (o2 : OwnS b2 w v2 L2) (hT : Tab w) :
    Calls Tryz.prog 11 #[.agg #[.int .i64 x, .int .i64 y, v1, v2]] w fun e w' => e = .returned (.string ⟨(fmtN x y L1 L2).toArray⟩) ∧ Below w.heap.size w w' :=
  implSnapshotTextV x y b2 v1 v2 L1 L2 w h1 h2 (SrcI.own o1) o2 hT
end Go.Proofs.YtpdpejlcilnafaaGreatDoor.kit
namespace Go.Proofs.YtpdpejlcilnafaaGreatDoor.kit
open Go.ChangeShapes Go.WideShapes Go.ChangeAt Go.RowKit Go.Deep
set_option linter.unusedVariables false

/-- the address a leads to the strings l -/
def AtW (w : World) (a : Option Addr) (l : List ByteArray) : Prop := ∀ j, j < l.length → ∃ x : Addr, a = some x ∧ x.block < w.heap.size ∧ w.cell? (x.add j) = some (.string (l.getD j .empty))
theorem AtW.nil (w : World) (a : Option Addr) : AtW w a [] := fun j h => by simp at h
theorem AtW.below {w w' : World} {a : Option Addr} {l : List ByteArray} {B : Nat} (h : AtW w a l) (hb : Below B w w') (hB : ∀ x, a = some x → 0 < l.length → x.block < B) : AtW w' a l := fun j hj => by
  obtain ⟨x, hx, hlt, hc⟩ := h j hj
  have hxB := hB x hx (by omega)
  exact ⟨x, hx, Nat.lt_of_lt_of_le hlt hb.size, (hb.cell (p := x.add j) (by unfold Addr.add; split <;> exact hxB)).trans hc⟩
theorem AtW.later {w w' : World} {a : Option Addr} {l : List ByteArray} (h : AtW w a l) (hb : Below w.heap.size w w') : AtW w' a l :=
  h.below hb (fun x hx h0 => by obtain ⟨x', hx', hlt, _⟩ := h 0 h0; rw [hx] at hx'; cases hx'; exact hlt)
theorem AtW.drewN {w : World} {a : Option Addr} {l : List ByteArray} (h : AtW w a l) (q : Nat) : AtW (w.drewN q) a l := h
/-- the slice value v is the call's own row of the strings l -/
def OwnW (base : Nat) (w : World) (v : Value) (l : List ByteArray) : Prop := w.ownsRow base 9 1 v l.length (l.map Value.string)
theorem OwnW.row {base : Nat} {w : World} {v : Value} {l : List ByteArray} (h : OwnW base w v l) : w.ownsRow base 9 1 v l.length (l.map Value.string) := h
theorem OwnW.form {base : Nat} {w : World} {v : Value} {l : List ByteArray} (h : OwnW base w v l) : ∃ a cap, v = .slice a l.length cap ∧ l.length ≤ cap ∧ cap ≤ maxLen ∧ AtW w a l ∧ (∀ x, a = some x → base ≤ x.block ∧ x.block < w.heap.size) := by
  rcases h.2 with ⟨rfl, h0⟩ | ⟨g, c, cur, rfl, hg, hh, hn, hm, _⟩
  · obtain rfl := List.eq_nil_of_length_eq_zero h0
    exact ⟨none, 0, rfl, Nat.le_refl _, Nat.zero_le _, AtW.nil _ _, fun x hx => by cases hx⟩
  · have hlt : g < w.heap.size := (Array.getElem?_eq_some_iff.1 hh).1
    refine ⟨_, _, rfl, hn, hm, fun j hj => ⟨_, rfl, hlt, ?_⟩, fun x hx => by cases hx; exact ⟨hg, hlt⟩⟩
    have := h.row.cellAt j (by omega)
    have hadd : (⟨g, 0, none⟩ : Addr).add j = ⟨g, j, none⟩ := by unfold Addr.add; split <;> simp_all
    rw [hadd, this]
    simp [List.getD, hj]
theorem OwnW.there {base : Nat} {w : World} {v : Value} {l : List ByteArray} (h : OwnW base w v l) (h0 : 0 < l.length) : ∃ g cap, v = .slice (some ⟨g, 0, none⟩) l.length cap ∧ l.length ≤ cap ∧ cap ≤ maxLen ∧ base ≤ g ∧ g < w.heap.size := by
  rcases h.2 with ⟨rfl, h1⟩ | ⟨g, c, cur, rfl, hg, hh, hn, hm, _⟩
  · omega
  · exact ⟨g, c, rfl, hn, hm, hg, (Array.getElem?_eq_some_iff.1 hh).1⟩
theorem OwnW.mono {base base' : Nat} {w : World} {v : Value} {l : List ByteArray} (h : OwnW base w v l) (hb : base' ≤ base) : OwnW base' w v l :=
  ⟨h.1, h.2.imp id (fun ⟨g, c, cur, hv, hg, r⟩ => ⟨g, c, cur, hv, by omega, r⟩)⟩
theorem OwnW.later {base : Nat} {w w' : World} {v : Value} {l : List ByteArray} (h : OwnW base w v l) (hb : Below w.heap.size w w') : OwnW base w' v l :=
  h.row.kept (row := none) ⟨hb.os, hb.tape, hb.output, hb.size, fun k hk _ => hb.block k hk⟩ (by cases hv : v.ownBlock <;> simp)
theorem OwnW.snoc {base : Nat} {w : World} {v : Value} {l : List ByteArray} {x : ByteArray} (h : w.ownsRow base 9 1 v (l.length + 1) (l.map Value.string ++ [.string x])) : OwnW base w v (l ++ [x]) := by
  simpa [OwnW] using h
theorem OwnW.of {base : Nat} {w : World} {v : Value} {l : List ByteArray} {n : Nat} {cs : List Value} (h : w.ownsRow base 9 1 v n cs) (hc : cs = l.map Value.string) : OwnW base w v l := by
  subst hc
  have hn : n = l.length := by have := h.1; simpa using this.symm
  subst hn
  exact h
theorem infoW : (Tryz.prog.info? 9).map (fun i => (i.zero, i.size, i.bytes)) = some (some (.string .empty), 1, 16) := by kernel_rfl
theorem getD_takeW {l : List ByteArray} {n j : Nat} (h : j < n) : (l.take n).getD j .empty = l.getD j .empty := by simp [List.getD, h]
theorem take_snocW (l : List ByteArray) (k : Nat) (h : k < l.length) : l.take (k + 1) = l.take k ++ [l.getD k .empty] := by
  rw [List.take_succ_eq_append_getElem h]; simp [List.getD, h]

/-- the slice value sv reads as the strings l, below block B -/
def SrcW (B : Nat) (w : World) (sv : Value) (l : List ByteArray) : Prop :=
  (sv = .slice none 0 0 ∧ l = []) ∨ ∃ ad c, sv = .slice (some ad) l.length c ∧ ad.block < B ∧ ∀ j, j < l.length → w.cell? (ad.add j) = some (.string (l.getD j .empty))
theorem SrcW.below {B B' : Nat} {w w' : World} {sv : Value} {l : List ByteArray} (h : SrcW B w sv l) (hb : Below B' w w') (hB : B ≤ B') : SrcW B w' sv l := by
  rcases h with h | ⟨ad, c, h1, h2, h3⟩
  · exact .inl h
  · exact .inr ⟨ad, c, h1, h2, fun j hj => (hb.cell (p := ad.add j) (by unfold Addr.add; split <;> exact Nat.lt_of_lt_of_le h2 hB)).trans (h3 j hj)⟩
theorem SrcW.row {w : World} {B g m : Nat} {c : Nat} {l : List ByteArray} (hg : g < B) (hm : m = l.length) (h : ∀ j, j < l.length → w.cell? ⟨g, j, none⟩ = some (.string (l.getD j .empty))) : SrcW B w (.slice (some ⟨g, 0, none⟩) m c) l := by
  subst hm
  exact .inr ⟨_, _, rfl, hg, fun j hj => by
    have e : (⟨g, 0, none⟩ : Addr).add j = ⟨g, j, none⟩ := by unfold Addr.add; split <;> simp_all
    rw [e]; exact h j hj⟩
theorem SrcW.part {w : World} {B g off m : Nat} {c : Nat} {l : List ByteArray} (hg : g < B) (hm : m = l.length) (h : ∀ j, j < l.length → w.cell? ⟨g, off + j, none⟩ = some (.string (l.getD j .empty))) : SrcW B w (.slice (some ⟨g, off, none⟩) m c) l := by
  subst hm
  exact .inr ⟨_, _, rfl, hg, fun j hj => by
    have e : (⟨g, off, none⟩ : Addr).add j = ⟨g, off + j, none⟩ := by unfold Addr.add; split <;> simp_all
    rw [e]; exact h j hj⟩
/-- a row of one number, just made -/
theorem SrcW.lit (w : World) (x : ByteArray) : SrcW (w.heap.size + 1) (w.alloc (.cells #[.string x] 9)) (.slice (some ⟨w.heap.size, 0, none⟩) 1 1) [x] := by
  refine SrcW.row (by omega) rfl (fun j hj => ?_)
  obtain rfl : j = 0 := by simpa using hj
  have h : (w.alloc (.cells #[.string x] 9)).ownsRow 0 9 1 (.slice (some ⟨w.heap.size, 0, none⟩) 1 1) 1 [.string x] := World.ownsRow_lit w #[.string x] 1 (Nat.zero_le _) (by unfold maxLen; omega) rfl
  rw [h.cellAt 0 (by omega)]
  rfl
theorem SrcW.grown {B : Nat} {w w' : World} {sv : Value} {l : List ByteArray} {row : Option Nat} (h : SrcW B w sv l) (hg : w.grownBy w' row) (hB : B ≤ w.heap.size) (hr : ∀ g ad n c, row = some g → sv = .slice (some ad) n c → ad.block ≠ g) : SrcW B w' sv l := by
  rcases h with h | ⟨ad, c, h1, h2, h3⟩
  · exact .inl h
  · refine .inr ⟨ad, c, h1, h2, fun j hj => ?_⟩
    have e : (ad.add j).block = ad.block := by unfold Addr.add; split <;> rfl
    refine (World.cell?_of_block ?_).trans (h3 j hj)
    rw [e]
    exact hg.block _ (by omega) (fun e => hr _ _ _ _ e.symm h1 rfl)
/-- append onto a row of the call's own, the source nil, empty or not -/
theorem wp_appW {w : World} {o : Oper} {a : Act} {K : Act → World → Prop} {Q : Exit → Act → World → Prop} (s x : Operand)
    (ho : o.op = .call { callee := .builtin .append, args := #[s, x], argTypes := #[40, 40] })
    (base : Nat) (v : Value) (l0 : List ByteArray) (hs : a.eval s = v) (hown : OwnW base w v l0) (B : Nat) (sv : Value) (l : List ByteArray) (hx : a.eval x = sv) (hsrc : SrcW B w sv l)
    (hlen : l0.length + l.length ≤ 1000000000000) (hbase : base ≤ w.heap.size)
    (h : ∀ v' w', OwnW base w' v' (l0 ++ l) → Below base w w' → w.grownBy w' v.ownBlock → K (a.put o.dst v') w') : o.wp Tryz.prog a w K Q := by
  obtain ⟨i0, hi, hz0, hz1, hz2⟩ := info_parts infoW
  rcases hsrc with ⟨rfl, rfl⟩ | ⟨ad, c, rfl, _, hc⟩
  · have hrun := run_append_owned_none (P := Tryz.prog) (w := w) base 40 o.type 9 i0 1 Tryz.underlying40 hi v l0.length _ hown.row
    unfold Oper.wp execOp
    simp only [ho, resolve, invoke, builtin, Sem.run_bind, Sem.run_pure, Result.andThen_ok, List.map_toArray, List.map_cons, List.map_nil, hs, hx, hrun]
    exact h v w (by rw [List.append_nil]; exact hown) (Below.refl _ _) (World.grownBy.refl _ _)
  · refine wp_append_own w s x 40 ho base 9 i0 (.string .empty) 1 16 Tryz.underlying40 hi hz0 hz1 hz2 rfl (by omega) v l0.length _ hs hown.row ad l.length c (l.map Value.string) hx (by simp) ?_ ?_ (by unfold maxLen; omega) (by omega) hbase ?_
    · intro j u hu
      have hj : j < l.length := by
        have := (List.getElem?_eq_some_iff.1 hu).1
        simpa using this
      rw [List.getElem?_map, List.getElem?_eq_getElem hj] at hu
      have e := hc j hj
      rw [e]
      simpa [List.getD, hj] using hu
    · intro u hu
      obtain ⟨y, _, rfl⟩ := List.mem_map.1 hu
      rfl
    · intro v' w' h1 h2 _
      refine h v' w' (OwnW.of h1 (by rw [List.map_append])) ((Below.refl base w).grown h2 hbase (fun k hk => (hown.row.lt k hk).1)) h2
theorem wpList_appW {w : World} {ops : Array Oper} {rest : List Oper} {o : Oper} {a : Act} {Q : Exit → Act → World → Prop} (hgd : o.guard = none) (s x : Operand)
    (ho : o.op = .call { callee := .builtin .append, args := #[s, x], argTypes := #[40, 40] })
    (base : Nat) (v : Value) (l0 : List ByteArray) (hs : a.eval s = v) (hown : OwnW base w v l0) (B : Nat) (sv : Value) (l : List ByteArray) (hx : a.eval x = sv) (hsrc : SrcW B w sv l)
    (hlen : l0.length + l.length ≤ 1000000000000) (hbase : base ≤ w.heap.size)
    (h : ∀ v' w', OwnW base w' v' (l0 ++ l) → Below base w w' → w.grownBy w' v.ownBlock → wpList Tryz.prog ops Q rest (a.put o.dst v') w') : wpList Tryz.prog ops Q (o :: rest) a w :=
  wpList_plain hgd fun _ hK => wp_appW s x ho base v l0 hs hown B sv l hx hsrc hlen hbase fun v' w' h2 h3 h4 => hK _ _ (h v' w' h2 h3 h4)
theorem step_appW {w : World} {ops : Array Oper} {o : Oper} {a : Act} {K : Act → World → Prop} {Q : Exit → Act → World → Prop} {E : Prop} (hgd : o.guard = none) (s x : Operand)
    (ho : o.op = .call { callee := .builtin .append, args := #[s, x], argTypes := #[40, 40] })
    (base : Nat) (v : Value) (l0 : List ByteArray) (hs : a.eval s = v) (hown : OwnW base w v l0) (B : Nat) (sv : Value) (l : List ByteArray) (hx : a.eval x = sv) (hsrc : SrcW B w sv l)
    (hlen : l0.length + l.length ≤ 1000000000000) (hbase : base ≤ w.heap.size)
    (h : ∀ v' w', OwnW base w' v' (l0 ++ l) → Below base w w' → w.grownBy w' v.ownBlock → K (a.put o.dst v') w') :
    if Region.wanted o (yielded ops a.tmps) = true then Oper.wp Tryz.prog o a w K Q else E := by
  rw [if_pos (by simp [Region.wanted, hgd])]
  exact wp_appW s x ho base v l0 hs hown B sv l hx hsrc hlen hbase h

/-- .. each of which is no longer than a string may be -/
def AtZ (w : World) (a : Option Addr) (l : List ByteArray) : Prop := AtW w a l ∧ ∀ y ∈ l, y.size ≤ maxLen
theorem AtZ.later {w w' : World} {a : Option Addr} {l : List ByteArray} (h : AtZ w a l) (hb : Below w.heap.size w w') : AtZ w' a l := ⟨h.1.later hb, h.2⟩
theorem AtZ.below {w w' : World} {a : Option Addr} {l : List ByteArray} {B : Nat} (h : AtZ w a l) (hb : Below B w w') (hB : ∀ x : Addr, a = some x → 0 < l.length → x.block < B) : AtZ w' a l := ⟨h.1.below hb hB, h.2⟩
theorem tl_ne {a b : ByteArray} (h : ¬ a = b) : (a.toList == b.toList) = false := by
  rw [beq_eq_false_iff_ne, ByteArray.toList_eq, ByteArray.toList_eq]
  exact fun e => h (ByteArray.ext (Array.ext' e))
theorem tl_eq (a : ByteArray) : (a.toList == a.toList) = true := by simp
theorem eq_takeW {a b : List ByteArray} {k : Nat} (hl : a.length = b.length) (hk : a.length ≤ k) (h : ∀ j, j < k → a.getD j .empty = b.getD j .empty) : a = b := by
  apply List.ext_getElem hl
  intro j h1 h2
  have := h j (by omega)
  simpa [List.getD, h1, h2] using this

section
variable {H : Type} {enc : TypeId × Value → H} {w : World} {base : Nat} {spare : Nat → Bool} {held : Bool}
set_option maxRecDepth 100000 in
/-- a []string, as cells -/
theorem open_strW {n : Nat} {c : Value} {x : DataW H × List MemPlace} (h : DataW.trod enc Tryz.prog w base spare held n 40 [c] = some x) :
    ∃ (a : Option Addr) (cap : Nat) (L : List ByteArray), c = .slice a L.length cap ∧ AtW w a L ∧ L.length ≤ maxLen ∧ ∀ y ∈ L, y.size ≤ maxLen := by
  rcases open_strs Tryz.underlying40 Tryz.underlying9 (by kernel_rfl) h with ⟨hcs, _⟩ | ⟨a, len, cap, m, Sx, hcs, hb, hl, hm, hmm, hx, hcell⟩
  · simp only [List.cons.injEq, and_true] at hcs
    exact ⟨none, 0, [], hcs, AtW.nil _ _, by simp, by simp⟩
  · simp only [List.cons.injEq, and_true] at hcs
    have hlm : len ≤ m := by rw [hmm]; split <;> omega
    refine ⟨some a, cap, (List.range len).map Sx, by rw [hcs]; simp, fun j hj => ⟨a, rfl, ?_, ?_⟩, by simp; omega, fun y hy => ?_⟩
    · have hj' : j < len := by simpa using hj
      have hb := World.block_lt_of_cell? w _ (hcell j (by omega)).1
      have e : (a.add j).block = a.block := by unfold Addr.add; split <;> rfl
      rw [e] at hb; exact hb
    · have hj' : j < len := by simpa using hj
      rw [(hcell j (by omega)).1]
      simp [List.getD, hj']
    · obtain ⟨i, hi, rfl⟩ := List.mem_map.1 hy
      exact (hcell i (by have := List.mem_range.1 hi; omega)).2
/-- .. handed in -/
theorem open_strV {v : Value} {d : DataW H} {p : List MemPlace} (h : DataW.Trod enc Tryz.prog w base spare held 40 v d p) (hlt : ∀ x ∈ p, x.block < w.heap.size) (hv : v.cells.toList = [v]) :
    ∃ (a : Option Addr) (cap : Nat) (L : List ByteArray), v = .slice a L.length cap ∧ AtZ w a L ∧ L.length ≤ maxLen := by
  obtain ⟨fuel, hf⟩ := h
  rw [hv] at hf
  obtain ⟨a, cap, L, e, h1, h2, h3⟩ := open_strW hf
  exact ⟨a, cap, L, e, ⟨h1, h3⟩, h2⟩
end
theorem OwnW.shape {base : Nat} {w : World} {v : Value} {l : List ByteArray} (h : OwnW base w v l) : ∃ a c, v = .slice a l.length c := by obtain ⟨a, c, h1, _⟩ := h.form; exact ⟨a, c, h1⟩
theorem OwnW.block {base : Nat} {w : World} {v : Value} {l : List ByteArray} (h : OwnW base w v l) : ∀ g, v.ownBlock = some g → base ≤ g ∧ g < w.heap.size := h.row.lt
theorem OwnW.marked {base : Nat} {w w' : World} {v u : Value} {l : List ByteArray} (h : OwnW base w u l) (hg : w.grownBy w' v.ownBlock) (hne : ∀ g, v.ownBlock = some g → u.ownBlock = some g → False) : OwnW base w' u l := by
  refine h.row.kept hg ?_
  cases hu : u.ownBlock with
  | none => exact .inl rfl
  | some g => exact .inr fun e => hne g e.symm hu
theorem atW_low {w : World} {a : Option Addr} {l : List ByteArray} (h : AtW w a l) : ∀ x : Addr, a = some x → 0 < l.length → x.block < w.heap.size := fun x hx h0 => by
  obtain ⟨x', hx', hlt, _⟩ := h 0 h0
  rw [hx] at hx'; cases hx'; exact hlt
theorem atZ_low {w : World} {a : Option Addr} {l : List ByteArray} (h : AtZ w a l) : ∀ x : Addr, a = some x → 0 < l.length → x.block < w.heap.size := atW_low h.1
/-- how many bytes the first k strings hold -/
def sumW (l : List ByteArray) : Nat → Nat
  | 0 => 0
  | k + 1 => sumW l k + (l.getD k .empty).size
theorem sumW_mono (l : List ByteArray) {j k : Nat} (h : j ≤ k) : sumW l j ≤ sumW l k := by
  induction k with
  | zero => have : j = 0 := by omega
            subst this; exact Nat.le_refl _
  | succ k ih =>
    rcases Nat.lt_or_ge j (k + 1) with h1 | h1
    · exact Nat.le_trans (ih (by omega)) (Nat.le_add_right _ _)
    · have : j = k + 1 := by omega
      subst this; exact Nat.le_refl _
theorem sumW_at (l : List ByteArray) {j : Nat} (h : j < l.length) : (l.getD j .empty).size ≤ sumW l l.length := Nat.le_trans (Nat.le_add_left _ _) (sumW_mono l (show j + 1 ≤ l.length from h))
end Go.Proofs.YtpdpejlcilnafaaGreatDoor.kit
namespace Go.Proofs.YtpdpejlcilnafaaGreatDoor.kit
open Go.ChangeShapes Go.WideShapes Go.ChangeAt Go.RowKit
set_option linter.unusedVariables false

/-- what a chunk holds ahead of its checksum -/
def conL (i n : Int) (d : List UInt8) : List UInt8 := Lib.itoa i ++ [47] ++ Lib.itoa n ++ [58] ++ d
def chunkL (i n : Int) (d : List UInt8) : List UInt8 := conL i n d ++ [35] ++ Lib.itoa (cksum (conL i n d))
/-- how many parts of this size a string has -/
def partsN (len size : Nat) : Nat := 1 + (len - 1) / size
/-- part i -/
def partL (s : List UInt8) (size i : Nat) : List UInt8 := (s.drop (i * size)).take size
def chunkB (s : List UInt8) (size t i : Nat) : ByteArray := ⟨(chunkL i t (partL s size i)).toArray⟩
/-- the chunks of a string -/
def encCh (s : List UInt8) (size : Int) : List ByteArray :=
  if size < 1 ∨ 40 < partsN s.length size.toNat then [] else (List.range (partsN s.length size.toNat)).map (chunkB s size.toNat (partsN s.length size.toNat))
theorem encCh_len (s : List UInt8) (size : Int) : (encCh s size).length ≤ 4194304 := by
  unfold encCh
  split
  · simp
  · simp; omega
theorem encCh_none {s : List UInt8} {size : Int} (h : size < 1 ∨ 40 < partsN s.length size.toNat) : encCh s size = [] := if_pos h
theorem encCh_some {s : List UInt8} {size : Nat} (h0 : 1 ≤ size) (h : partsN s.length size ≤ 40) : encCh s size = (List.range (partsN s.length size)).map (chunkB s size (partsN s.length size)) := by
  unfold encCh
  rw [if_neg (by simp only [Int.toNat_natCast]; omega)]
  simp only [Int.toNat_natCast]
theorem conL_len {i n : Int} {d : List UInt8} (h0 : 0 ≤ i) (h1 : i ≤ 1000000000) (h2 : 0 ≤ n) (h3 : n ≤ 1000000000) : (conL i n d).length ≤ d.length + 44 := by
  have l1 := itoa_le i (by omega) (by omega)
  have l2 := itoa_le n (by omega) (by omega)
  unfold conL
  simp; omega
theorem chunkL_len {i n : Int} {d : List UInt8} (h0 : 0 ≤ i) (h1 : i ≤ 1000000000) (h2 : 0 ≤ n) (h3 : n ≤ 1000000000) : (chunkL i n d).length ≤ d.length + 66 := by
  have l1 := conL_len (d := d) h0 h1 h2 h3
  have hc := cksum_in (conL i n d)
  have l2 := itoa_le (cksum (conL i n d)) (by omega) (by omega)
  unfold chunkL
  simp; omega
theorem partsN_pos (len size : Nat) : 1 ≤ partsN len size := Nat.le_add_right _ _
theorem partsN_big {len size : Nat} (h : len ≤ size) (h1 : 1 ≤ size) : partsN len size = 1 := by
  unfold partsN
  rw [Nat.div_eq_of_lt (by omega)]
theorem partsN_eq {len size : Nat} (h : size < len) (h1 : 1 ≤ size) : (len + size - 1) / size = partsN len size := by
  unfold partsN
  rw [show len + size - 1 = (len - 1) + size by omega, Nat.add_div_right _ (by omega)]
  omega
/-- where part i begins -/
theorem part_at {len size i : Nat} (h1 : 1 ≤ size) (h : i < partsN len size) : i * size ≤ len := by
  unfold partsN at h
  have h2 : i ≤ (len - 1) / size := by omega
  have h3 := Nat.mul_le_mul_right size h2
  have h4 := Nat.div_mul_le_self (len - 1) size
  omega
theorem conStr (a b d : List UInt8) : ((((⟨a.toArray⟩ : ByteArray) ++ (⟨[47].toArray⟩ : ByteArray)) ++ (⟨b.toArray⟩ : ByteArray)) ++ (⟨[58].toArray⟩ : ByteArray)) ++ (⟨d.toArray⟩ : ByteArray) = ⟨(a ++ [47] ++ b ++ [58] ++ d).toArray⟩ := by
  simp only [ByteArray.mk_append_mk]
end Go.Proofs.YtpdpejlcilnafaaGreatDoor.kit
namespace Go.Proofs.YtpdpejlcilnafaaGreatDoor.kit
open Go.ChangeShapes Go.WideShapes Go.ChangeAt Go.RowKit
set_option linter.unusedVariables false

theorem toL_len (d : ByteArray) : d.data.toList.length = d.size := by rw [Array.length_toList]; rfl
theorem ba_eta (d : ByteArray) : (⟨d.data.toList.toArray⟩ : ByteArray) = d := by apply ByteArray.ext; simp
theorem mk_size (l : List UInt8) : (⟨l.toArray⟩ : ByteArray).size = l.length := by simp [ByteArray.size]
theorem extL (s : ByteArray) (a b : Nat) : (s.extract a b).data.toList = (s.data.toList.drop a).take (b - a) := Lib.extract_data s a b
theorem ext_mk {s : ByteArray} {a b : Nat} {d : List UInt8} (h : (s.extract a b).data.toList = d) : Value.string (s.extract a b) = str d := by
  unfold str
  congr 1
  apply ByteArray.ext
  apply Array.ext'
  rw [h]
set_option maxRecDepth 100000 in
set_option maxHeartbeats 2000000 in
theorem specChunk (i n : Int) (d : ByteArray) (w : World) (h0 : 0 ≤ i) (h1 : i ≤ 1000000000) (h2 : 0 ≤ n) (h3 : n ≤ 1000000000) (hd : d.size ≤ 1048576) :
    Calls Tryz.prog 61 #[.int .i64 i, .int .i64 n, .string d] w fun e w' => e = .returned (.string ⟨(chunkL i n d.data.toList).toArray⟩) ∧ Below w.heap.size w w' := by
  have hdl := toL_len d
  have lx := itoa_le i (by omega) (by omega)
  have ly := itoa_le n (by omega) (by omega)
  have hcon : (((((⟨(Lib.itoa i).toArray⟩ : ByteArray) ++ (⟨#[47]⟩ : ByteArray)) ++ (⟨(Lib.itoa n).toArray⟩ : ByteArray)) ++ (⟨#[58]⟩ : ByteArray)) ++ d) = ⟨(conL i n d.data.toList).toArray⟩ := by
    apply ByteArray.ext; apply Array.ext'; unfold conL; simp
  have hcl := conL_len (d := d.data.toList) h0 h1 h2 h3
  have hch : chunkL i n d.data.toList = conL i n d.data.toList ++ [35] ++ Lib.itoa (cksum (conL i n d.data.toList)) := rfl
  have HCH := Lib.hid hch
  have hck := cksum_in (conL i n d.data.toList)
  have lz := itoa_le (cksum (conL i n d.data.toList)) (by omega) (by omega)
  have j3 : ∀ W, Calls Tryz.prog 95 #[.string ⟨(conL i n d.data.toList).toArray⟩] W fun e w' => e = .returned (.int .i64 (cksum (conL i n d.data.toList))) ∧ Below W.heap.size W w' := fun W => by
    have := specChecksum ⟨(conL i n d.data.toList).toArray⟩ W (by rw [mk_size]; omega)
    simpa using this
  generalize cksum (conL i n d.data.toList) = ck at *
  have j1 := fun W => specFormatInt i W (by omega) (by omega)
  have j2 := fun W => specFormatInt n W (by omega) (by omega)
  have j4 := fun W => specFormatInt ck W (by omega) (by omega)
  generalize conL i n d.data.toList = cn at *
  generalize Lib.itoa i = fx at *
  generalize Lib.itoa n = fy at *
  generalize Lib.itoa ck = fz at *
  have e0 : ¬ (9223372036854775807 < fx.length + 1) := by omega
  have e1 : ¬ (9223372036854775807 < fx.length + 1 + fy.length) := by omega
  have e2 : ¬ (9223372036854775807 < fx.length + 1 + fy.length + 1) := by omega
  have e3 : ¬ (9223372036854775807 < fx.length + 1 + fy.length + 1 + d.size) := by omega
  have e4 : ¬ (9223372036854775807 < cn.length + 1) := by omega
  have e5 : ¬ (9223372036854775807 < cn.length + 1 + fz.length) := by omega
  have J1 := Lib.hid j1
  have J2 := Lib.hid j2
  have J3 := Lib.hid j3
  have J4 := Lib.hid j4
  have HC := Lib.hid hcon
  clear j1 j2 j3 j4 hcon hch hck
  go_enter Tryz.func61, Tryz.ntmps61
  go_wp2_with fail
  refine (J1.out _).mono ?_
  rintro e w1 ⟨rfl, hb1⟩
  go_wp2_with fail
  refine (J2.out _).mono ?_
  rintro e w2 ⟨rfl, hb2⟩
  go_wp2_with fail
  rw [HC.out]
  refine (J3.out _).mono ?_
  rintro e w3 ⟨rfl, hb3⟩
  go_wp2_with fail
  refine (J4.out _).mono ?_
  rintro e w4 ⟨rfl, hb4⟩
  have HZ := Lib.hid (((hb1.trans (hb2.mono hb1.size)).trans (hb3.mono (Nat.le_trans hb1.size hb2.size))).trans (hb4.mono (Nat.le_trans hb1.size (Nat.le_trans hb2.size hb3.size))))
  clear hb1 hb2 hb3 hb4
  go_wp2_with fail
  go_ret
  exact ⟨by rw [HCH.out]; exact congrArg (fun z => Ending.returned (Value.string z)) (by apply ByteArray.ext; apply Array.ext'; simp), HZ.out⟩
set_option maxRecDepth 100000 in
set_option maxHeartbeats 2000000 in
theorem implChunk (i n : Int) (d : ByteArray) (w : World) (h0 : 0 ≤ i) (h1 : i ≤ 1000000000) (h2 : 0 ≤ n) (h3 : n ≤ 1000000000) (hd : d.size ≤ 1048576) (hT : Tab w) :
    Calls Tryz.prog 48 #[.agg #[.int .i64 i, .int .i64 n, .string d]] w fun e w' => e = .returned (.string ⟨(chunkL i n d.data.toList).toArray⟩) ∧ Below w.heap.size w w' := by
  have hdl := toL_len d
  have lx := itoa_le i (by omega) (by omega)
  have ly := itoa_le n (by omega) (by omega)
  have hcon : (((((⟨(Lib.itoa i).toArray⟩ : ByteArray) ++ (⟨#[47]⟩ : ByteArray)) ++ (⟨(Lib.itoa n).toArray⟩ : ByteArray)) ++ (⟨#[58]⟩ : ByteArray)) ++ d) = ⟨(conL i n d.data.toList).toArray⟩ := by
    apply ByteArray.ext; apply Array.ext'; unfold conL; simp
  have hcl := conL_len (d := d.data.toList) h0 h1 h2 h3
  have hch : chunkL i n d.data.toList = conL i n d.data.toList ++ [35] ++ Lib.itoa (cksum (conL i n d.data.toList)) := rfl
  have HCH := Lib.hid hch
  have hck := cksum_in (conL i n d.data.toList)
  have lz := itoa_le (cksum (conL i n d.data.toList)) (by omega) (by omega)
  have j3 : ∀ W, Calls Tryz.prog 86 #[.string ⟨(conL i n d.data.toList).toArray⟩] W fun e w' => e = .returned (.int .i64 (cksum (conL i n d.data.toList))) ∧ Below W.heap.size W w' := fun W => by
    have := implChecksum ⟨(conL i n d.data.toList).toArray⟩ W (by rw [mk_size]; omega)
    simpa using this
  generalize cksum (conL i n d.data.toList) = ck at *
  have j1 := fun W (t : Tab W) => implFormatInt i W (by omega) (by omega) t
  have j2 := fun W (t : Tab W) => implFormatInt n W (by omega) (by omega) t
  have j4 := fun W (t : Tab W) => implFormatInt ck W (by omega) (by omega) t
  generalize conL i n d.data.toList = cn at *
  generalize Lib.itoa i = fx at *
  generalize Lib.itoa n = fy at *
  generalize Lib.itoa ck = fz at *
  have e0 : ¬ (9223372036854775807 < fx.length + 1) := by omega
  have e1 : ¬ (9223372036854775807 < fx.length + 1 + fy.length) := by omega
  have e2 : ¬ (9223372036854775807 < fx.length + 1 + fy.length + 1) := by omega
  have e3 : ¬ (9223372036854775807 < fx.length + 1 + fy.length + 1 + d.size) := by omega
  have e4 : ¬ (9223372036854775807 < cn.length + 1) := by omega
  have e5 : ¬ (9223372036854775807 < cn.length + 1 + fz.length) := by omega
  have J1 := Lib.hid j1
  have J2 := Lib.hid j2
  have J3 := Lib.hid j3
  have J4 := Lib.hid j4
  have HC := Lib.hid hcon
  have HT := Lib.hid hT
  clear hT
  clear j1 j2 j3 j4 hcon hch hck
  have hB : Below w.heap.size w (w.alloc (.cells #[.int .i64 i, .int .i64 n, .string d] 75)) := (Below.refl _ _).alloc (Nat.le_refl _) _
  have HB := Lib.hid hB
  have R1 : ∀ p : LaterOf (w.alloc (.cells #[.int .i64 i, .int .i64 n, .string d] 75)), Hid _ := fun p => Lib.hid (J1.out p.W ((HT.out.below HB.out).below p.h))
  have R2 : ∀ p : LaterOf (w.alloc (.cells #[.int .i64 i, .int .i64 n, .string d] 75)), Hid _ := fun p => Lib.hid (J2.out p.W ((HT.out.below HB.out).below p.h))
  have q0 := LaterOf.cell (w := w.alloc (.cells #[.int .i64 i, .int .i64 n, .string d] 75)) (a := ⟨w.heap.size, 0, none⟩) (v := .int .i64 i) (by simp) (by rw [World.cell?_alloc_at _ _ _ _ rfl]; rfl)
  have q1 := LaterOf.cell (w := w.alloc (.cells #[.int .i64 i, .int .i64 n, .string d] 75)) (a := ⟨w.heap.size, 1, none⟩) (v := .int .i64 n) (by simp) (by rw [World.cell?_alloc_at _ _ _ _ rfl]; rfl)
  have q2 := LaterOf.cell (w := w.alloc (.cells #[.int .i64 i, .int .i64 n, .string d] 75)) (a := ⟨w.heap.size, 2, none⟩) (v := .string d) (by simp) (by rw [World.cell?_alloc_at _ _ _ _ rfl]; rfl)
  clear J1 J2 hB
  go_enter Tryz.func48, Tryz.ntmps48
  go_upto_region 1 with (fail)
  refine wp_region_later (by kernel_rfl) (by kernel_rfl) ?_
  repeat (go_big_quiet_step (first | (with_reducible exact Calls.later_of (R1 _).out) | (with_reducible exact Calls.later_of (R2 _).out)))
  refine wpQuiet_nil ?_
  intro _ hw'
  obtain ⟨⟨wz, hwz⟩, hw''⟩ := hw'
  subst hw''
  have HZ1 := Lib.hid (HB.out.trans (hwz.mono HB.out.size))
  clear hwz q0 q1 q2 R1 R2
  go_wp2_with fail
  rw [HC.out]
  refine (J3.out _).mono ?_
  rintro e w3 ⟨rfl, hb3⟩
  have HZ3 := Lib.hid (HZ1.out.trans (hb3.mono HZ1.out.size))
  clear hb3
  go_wp2_with fail
  refine (J4.out _ (HT.out.below HZ3.out)).mono ?_
  rintro e w4 ⟨rfl, hb4⟩
  have HZ := Lib.hid (HZ3.out.trans (hb4.mono HZ3.out.size))
  clear hb4
  go_wp2_with fail
  go_ret
  exact ⟨by rw [HCH.out]; exact congrArg (fun z => Ending.returned (Value.string z)) (by apply ByteArray.ext; apply Array.ext'; simp), HZ.out⟩
end Go.Proofs.YtpdpejlcilnafaaGreatDoor.kit
namespace Go.Proofs.YtpdpejlcilnafaaGreatDoor.kit
open Go.ChangeShapes Go.WideShapes Go.ChangeAt Go.RowKit
set_option linter.unusedVariables false

theorem range_snoc {α : Type} (f : Nat → α) (k : Nat) : (List.range (k + 1)).map f = (List.range k).map f ++ [f k] := by simp [List.range_succ]
theorem part_ext (s : ByteArray) (p z e : Nat) (h : p ≤ s.size) (he : e = min s.size (p + min z s.size)) : (s.extract p e).data.toList = (s.data.toList.drop p).take z := by
  rw [extL, he]
  have hl := toL_len s
  by_cases h1 : z ≤ s.size - p
  · rw [show min s.size (p + min z s.size) - p = z by omega]
  · rw [show min s.size (p + min z s.size) - p = s.size - p by omega, List.take_of_length_le (by rw [List.length_drop]; omega), List.take_of_length_le (by rw [List.length_drop]; omega)]
set_option maxRecDepth 100000 in
set_option maxHeartbeats 4000000 in
theorem specEncodeChunks (s : ByteArray) (z : Int) (w : World) (hs : s.size ≤ 1048576) :
    Calls Tryz.prog 22 #[.string s, .int .i64 z] w fun e w' => ∃ v, e = .returned v ∧ OwnW w.heap.size w' v (encCh s.data.toList z) ∧ Below w.heap.size w w' := by
  have hsl := toL_len s
  by_cases h1 : z < 1
  · have HF := Lib.hid (encCh_none (s := s.data.toList) (.inl h1))
    have g1 : decide (z < 1) = true := decide_eq_true h1
    clear h1
    go_enter Tryz.func22, Tryz.ntmps22
    go_wp2_with fail
    go_ret
    refine ⟨_, rfl, ?_, (Below.refl _ _).alloc (Nat.le_refl _) _⟩
    rw [HF.out]
    exact World.ownsRow_lit w #[] 0 (Nat.le_refl _) (Nat.zero_le _) rfl
  · obtain ⟨zN, rfl⟩ := Int.eq_ofNat_of_zero_le (show 0 ≤ z by omega)
    have hz1 : 1 ≤ zN := by omega
    have g1 : decide ((zN : Int) < 1) = false := decide_eq_false h1
    clear h1
    by_cases h2 : s.size ≤ zN
    · have g2 : decide ((zN : Int) ≥ (s.size : Int)) = true := decide_eq_true (by omega)
      have HF := Lib.hid (encCh_some (s := s.data.toList) (size := zN) (by omega) (by rw [partsN_big (by omega) (by omega)]; omega))
      obtain ⟨t, ht⟩ : ∃ t, t = partsN s.size zN := ⟨_, rfl⟩
      have ht1 : t = 1 := by rw [ht]; exact partsN_big (by omega) (by omega)
      rw [hsl, ← ht] at HF
      have HT := Lib.hid ht.symm
      clear ht
      go_enter Tryz.func22, Tryz.ntmps22
      go_wp2_with fail
      go_loopw [5, 7] (fun v i wr => ∃ k : Nat, k ≤ t ∧ i = .int .i64 k ∧ OwnW w.heap.size wr v ((List.range k).map (chunkB s.data.toList zN t)) ∧ Below w.heap.size w wr) (fun _ i _ => t - (intOf i).toNat)
      case atStart => exact ⟨0, Nat.zero_le _, rfl, World.ownsRow_lit w #[] 0 (Nat.le_refl _) (Nat.zero_le _) rfl, (Below.refl _ _).alloc (Nat.le_refl _) _⟩
      case round =>
        obtain ⟨k, hk, rfl, hown, hb⟩ := hrel
        by_cases hlt : k < t
        · skip
          have HO := Lib.hid hown
          have HB := Lib.hid hb
          have hsz0 := hb.size
          have hrl : ((List.range k).map (chunkB s.data.toList zN t)).length = k := by simp
          have HRL := Lib.hid hrl
          have hpl : k * zN ≤ s.size := part_at (len := s.size) hz1 (by rw [HT.out]; exact hlt)
          obtain ⟨p, hp⟩ : ∃ p, p = k * zN := ⟨_, rfl⟩
          rw [← hp] at hpl
          have hpi : (k : Int) * (zN : Int) = (p : Int) := by rw [hp]; simp
          have HP := Lib.hid hp
          obtain ⟨e, he⟩ : ∃ e, e = min s.size (p + min zN s.size) := ⟨_, rfl⟩
          have hpe := part_ext s p zN e hpl he
          have hes : (s.extract p e).size ≤ 1048576 := by rw [ByteArray.size_extract]; omega
          have hce : chunkB s.data.toList zN t k = ⟨(chunkL k t (s.extract p e).data.toList).toArray⟩ := by
            unfold chunkB partL
            rw [← hp, hpe]
          have HCE := Lib.hid hce
          have J := Lib.hid (fun W => specChunk (k : Int) (t : Int) (s.extract p e) W (by omega) (by omega) (by omega) (by omega) hes)
          clear hown hb hp hpe hce hrl hes
          obtain rfl : k = 0 := by omega
          obtain rfl : p = 0 := by rw [HP.out]; omega
          subst ht1
          have hmin : (min (s.size : Int) (zN : Int)).toNat = e := by omega
          have HMIN := Lib.hid hmin
          clear he hmin hpl hpi
          go_wp2_with fail
          rw [HMIN.out]
          refine (J.out _).mono ?_
          rintro e1 w1 ⟨rfl, hb1⟩
          have hO1 := (HO.out.later hb1).row
          rw [HRL.out] at hO1
          have HO1 := Lib.hid hO1
          have hs1 : w.heap.size ≤ w1.heap.size := Nat.le_trans hsz0 hb1.size
          have HB1 := Lib.hid (HB.out.trans (hb1.mono hsz0))
          clear hO1 hb1 J HO HB
          go_wp2_with (at_builtin; refine wpList_push1 rfl _ _ 40 rfl w.heap.size 9 (.string ByteArray.empty) 16 Tryz.underlying40 infoW rfl _ _ _ rfl HO1.out _ 1 rfl (by rfl) (by omega) (by omega) hs1 ?_; intro v' w9 hown' hb9 hg9)
          go_roundw
          case rel =>
            refine ⟨1, Nat.le_refl _, rfl, ?_, HB1.out.trans hb9⟩
            rw [range_snoc, HCE.out]
            exact OwnW.of hown' (by simp)
          case measure => simp [intOf]
        · obtain rfl : k = t := by omega
          have HO := Lib.hid hown
          clear hlt hk hown
          subst ht1
          go_wp2_with fail
          go_ret
          exact ⟨_, rfl, by rw [HF.out]; exact HO.out, hb⟩
    · have g2 : decide ((zN : Int) ≥ (s.size : Int)) = false := decide_eq_false (by omega)
      have hsum : ((s.size : Int) + (zN : Int) - 1).tdiv (zN : Int) = ((partsN s.size zN : Nat) : Int) := by
        rw [← partsN_eq (by omega) hz1, show (s.size : Int) + (zN : Int) - 1 = ((s.size + zN - 1 : Nat) : Int) by omega]
        rfl
      have hw1 : IntKind.i64.wrap ((s.size : Int) + (zN : Int)) = (s.size : Int) + (zN : Int) := IntWalk.i64_in _ (by omega)
      have hw2 : IntKind.i64.wrap ((s.size : Int) + (zN : Int) - 1) = (s.size : Int) + (zN : Int) - 1 := IntWalk.i64_in _ (by omega)
      have htl : partsN s.size zN ≤ s.size := by
        unfold partsN
        have := Nat.div_le_self (s.size - 1) zN
        omega
      have ht0 := partsN_pos s.size zN
      have HF1 := Lib.hid (fun (h : partsN s.size zN ≤ 40) => encCh_some (s := s.data.toList) (size := zN) (by omega) (by rw [hsl]; exact h))
      have HF0 := Lib.hid (fun (h : 40 < partsN s.size zN) => encCh_none (s := s.data.toList) (size := (zN : Int)) (.inr (by rw [hsl]; exact h)))
      rw [hsl] at HF1
      obtain ⟨t, ht⟩ : ∃ t, partsN s.size zN = t := ⟨_, rfl⟩
      rw [ht] at hsum htl HF1 HF0 ht0
      have HT := Lib.hid ht
      clear ht
      have hmx : max (1 : Int) (t : Int) = (t : Int) := by omega
      by_cases h3 : 40 < t
      · have g3 : decide ((t : Int) > 40) = true := decide_eq_true (by omega)
        go_enter Tryz.func22, Tryz.ntmps22
        go_wp2_with fail
        go_ret
        refine ⟨_, rfl, ?_, (Below.refl _ _).alloc (Nat.le_refl _) _⟩
        rw [HF0.out h3]
        exact World.ownsRow_lit w #[] 0 (Nat.le_refl _) (Nat.zero_le _) rfl
      · have g3 : decide ((t : Int) > 40) = false := decide_eq_false (by omega)
        have HF := Lib.hid (HF1.out (by omega))
        clear HF1 HF0
        go_enter Tryz.func22, Tryz.ntmps22
        go_wp2_with fail
        clear hw1 hw2 hsum hmx g1 g2 g3
        go_loopw [5, 7] (fun v i wr => ∃ k : Nat, k ≤ t ∧ i = .int .i64 k ∧ OwnW w.heap.size wr v ((List.range k).map (chunkB s.data.toList zN t)) ∧ Below w.heap.size w wr) (fun _ i _ => t - (intOf i).toNat)
        case atStart => exact ⟨0, Nat.zero_le _, rfl, World.ownsRow_lit w #[] 0 (Nat.le_refl _) (Nat.zero_le _) rfl, (Below.refl _ _).alloc (Nat.le_refl _) _⟩
        case round =>
          obtain ⟨k, hk, rfl, hown, hb⟩ := hrel
          by_cases hlt : k < t
          · skip
            have htt := HT.out
            have HO := Lib.hid hown
            have HB := Lib.hid hb
            have hsz0 := hb.size
            have hrl : ((List.range k).map (chunkB s.data.toList zN t)).length = k := by simp
            have HRL := Lib.hid hrl
            have hpl : k * zN ≤ s.size := part_at (len := s.size) hz1 (by rw [HT.out]; exact hlt)
            obtain ⟨p, hp⟩ : ∃ p, p = k * zN := ⟨_, rfl⟩
            rw [← hp] at hpl
            have hpi : (k : Int) * (zN : Int) = (p : Int) := by rw [hp]; simp
            have HP := Lib.hid hp
            obtain ⟨e, he⟩ : ∃ e, e = min s.size (p + min zN s.size) := ⟨_, rfl⟩
            have hpe := part_ext s p zN e hpl he
            have hes : (s.extract p e).size ≤ 1048576 := by rw [ByteArray.size_extract]; omega
            have hce : chunkB s.data.toList zN t k = ⟨(chunkL k t (s.extract p e).data.toList).toArray⟩ := by
              unfold chunkB partL
              rw [← hp, hpe]
            have HCE := Lib.hid hce
            have J := Lib.hid (fun W => specChunk (k : Int) (t : Int) (s.extract p e) W (by omega) (by omega) (by omega) (by omega) hes)
            clear hown hb hp hpe hce hrl hes
            have hmin : (min (s.size : Int) ((p : Int) + min (zN : Int) (s.size : Int))).toNat = e := by omega
            have HMIN := Lib.hid hmin
            have hpw : IntKind.i64.wrap (p : Int) = (p : Int) := IntWalk.i64_in _ (by omega)
            clear hmin he htt
            go_wp2_with fail
            rw [HMIN.out]
            refine (J.out _).mono ?_
            rintro e1 w1 ⟨rfl, hb1⟩
            have hO1 := (HO.out.later hb1).row
            rw [HRL.out] at hO1
            have HO1 := Lib.hid hO1
            have hs1 : w.heap.size ≤ w1.heap.size := Nat.le_trans hsz0 hb1.size
            have HB1 := Lib.hid (HB.out.trans (hb1.mono hsz0))
            clear hO1 hb1 J HO HB
            go_wp2_with (at_builtin; refine wpList_push1 rfl _ _ 40 rfl w.heap.size 9 (.string ByteArray.empty) 16 Tryz.underlying40 infoW rfl _ _ _ rfl HO1.out _ 1 rfl (by rfl) (by omega) (by omega) hs1 ?_; intro v' w9 hown' hb9 hg9)
            go_roundw
            case rel =>
              refine ⟨k + 1, by omega, by go_num, ?_, HB1.out.trans hb9⟩
              rw [range_snoc, HCE.out]
              exact OwnW.of hown' (by simp)
            case measure => simp [intOf]; omega
          · obtain rfl : k = t := by omega
            have HO := Lib.hid hown
            clear hlt hk hown
            go_wp2_with fail
            go_ret
            exact ⟨_, rfl, by rw [HF.out]; exact HO.out, hb⟩
set_option maxRecDepth 100000 in
set_option maxHeartbeats 4000000 in
theorem implEncodeChunks (s : ByteArray) (z : Int) (w : World) (hs : s.size ≤ 1048576) (hT : Tab w) :
    Calls Tryz.prog 15 #[.string s, .int .i64 z] w fun e w' => ∃ v, e = .returned v ∧ OwnW w.heap.size w' v (encCh s.data.toList z) ∧ Below w.heap.size w w' := by
  have hsl := toL_len s
  have HTB := Lib.hid hT
  clear hT
  by_cases h1 : z < 1
  · have HF := Lib.hid (encCh_none (s := s.data.toList) (.inl h1))
    have g1 : decide (z < 1) = true := decide_eq_true h1
    clear h1
    go_enter Tryz.func15, Tryz.ntmps15
    go_wp2_with fail
    go_ret
    refine ⟨_, rfl, ?_, Below.refl _ _⟩
    rw [HF.out]
    exact World.ownsRow_nil _ _ _ _
  · obtain ⟨zN, rfl⟩ := Int.eq_ofNat_of_zero_le (show 0 ≤ z by omega)
    have hz1 : 1 ≤ zN := by omega
    have g1 : decide ((zN : Int) < 1) = false := decide_eq_false h1
    clear h1
    have ht0 := partsN_pos s.size zN
    have htl : partsN s.size zN ≤ 1 + s.size := by
      unfold partsN
      have := Nat.div_le_self (s.size - 1) zN
      omega
    have hsum : (max ((s.size : Int) - 1) 0).tdiv (zN : Int) = ((partsN s.size zN : Nat) : Int) - 1 := by
      rw [show max ((s.size : Int) - 1) 0 = ((s.size - 1 : Nat) : Int) by omega]
      unfold partsN
      rw [show (((1 + (s.size - 1) / zN : Nat) : Int) - 1) = (((s.size - 1) / zN : Nat) : Int) by omega]
      rfl
    have HF1 := Lib.hid (fun (h : partsN s.size zN ≤ 40) => encCh_some (s := s.data.toList) (size := zN) (by omega) (by rw [hsl]; exact h))
    have HF0 := Lib.hid (fun (h : 40 < partsN s.size zN) => encCh_none (s := s.data.toList) (size := (zN : Int)) (.inr (by rw [hsl]; exact h)))
    rw [hsl] at HF1
    obtain ⟨t, ht⟩ : ∃ t, partsN s.size zN = t := ⟨_, rfl⟩
    rw [ht] at hsum htl HF1 HF0 ht0
    have HT := Lib.hid ht
    clear ht
    have hw1 : IntKind.i64.wrap ((t : Int) - 1) = (t : Int) - 1 := IntWalk.i64_in _ (by omega)
    have hw2 : IntKind.i64.wrap (1 + ((t : Int) - 1)) = (t : Int) := by rw [show 1 + ((t : Int) - 1) = (t : Int) by omega]; exact IntWalk.i64_in _ (by omega)
    by_cases h3 : 40 < t
    · have g3 : decide ((t : Int) > 40) = true := decide_eq_true (by omega)
      go_enter Tryz.func15, Tryz.ntmps15
      go_wp2_with fail
      go_ret
      refine ⟨_, rfl, ?_, Below.refl _ _⟩
      rw [HF0.out h3]
      exact World.ownsRow_nil _ _ _ _
    · have g3 : decide ((t : Int) > 40) = false := decide_eq_false (by omega)
      have HF := Lib.hid (HF1.out (by omega))
      clear HF1 HF0
      have hmk : ∀ W : World, (Instr.makeSlice 40 (.int .i64 0) (.int .i64 (t : Int))).run Tryz.prog W = .ok (.slice (some ⟨W.heap.size, 0, none⟩) 0 t) (W.alloc (.cells (madeCells #[.string ByteArray.empty] t) 9)) := fun W => by
        obtain ⟨i0, hi, hz0, hz1, hz2⟩ := info_parts infoW
        have h := run_make (P := Tryz.prog) W 40 9 i0 (.string ByteArray.empty) Tryz.underlying40 hi hz0 .i64 .i64 0 (t : Int) (by omega) (by omega) (by rw [hz2]; omega) (by omega)
        simpa [hz1, Value.cells] using h
      go_enter Tryz.func15, Tryz.ntmps15
      go_wp2_with fail
      clear hmk hw1 hw2 g1 g3 hsum
      go_loopw [0, 6, 23] (fun sv v i wr => ∃ (k : Nat) (b : ByteArray), k ≤ t ∧ i = .int .i64 k ∧ sv = .string b ∧ Hid (b.data.toList = s.data.toList.drop (k * zN)) ∧ OwnW w.heap.size wr v ((List.range k).map (chunkB s.data.toList zN t)) ∧ Below w.heap.size w wr) (fun _ _ i _ => t - (intOf i).toNat)
      case atStart => exact ⟨0, s, Nat.zero_le _, rfl, rfl, Lib.hid (by simp), World.ownsRow_made w _ _ (Nat.le_refl _) (by unfold maxLen; omega) (by simp [size_madeCells]), (Below.refl _ _).alloc (Nat.le_refl _) _⟩
      case round =>
        obtain ⟨k, b, hk, rfl, rfl, HBL, hown, hb⟩ := hrel
        by_cases hlt : k < t
        · have HO := Lib.hid hown
          have HB := Lib.hid hb
          have hsz0 := hb.size
          have HRL := Lib.hid (show ((List.range k).map (chunkB s.data.toList zN t)).length = k by simp)
          have hpl : k * zN ≤ s.size := part_at (len := s.size) hz1 (by rw [HT.out]; exact hlt)
          have hbs : b.size ≤ s.size := by
            have h1 := congrArg List.length HBL.out
            rw [toL_len, List.length_drop, hsl] at h1
            omega
          obtain ⟨e, he⟩ : ∃ e, e = min zN b.size := ⟨_, rfl⟩
          have hpe : (b.extract 0 e).data.toList = partL s.data.toList zN k := by
            rw [extL, HBL.out]
            unfold partL
            rw [List.drop_zero, he, Nat.sub_zero]
            have h1 := congrArg List.length HBL.out
            rw [toL_len] at h1
            by_cases h2 : zN ≤ b.size
            · rw [Nat.min_eq_left h2]
            · rw [Nat.min_eq_right (by omega), List.take_of_length_le (by omega), List.take_of_length_le (by omega)]
          have hnx : (b.extract e b.size).data.toList = s.data.toList.drop ((k + 1) * zN) := by
            rw [extL, HBL.out, List.drop_drop]
            have h1 := congrArg List.length HBL.out
            rw [toL_len, List.length_drop, hsl] at h1
            rw [List.take_of_length_le (by rw [List.length_drop, hsl]; omega), Nat.add_mul, Nat.one_mul]
            by_cases h2 : zN ≤ b.size
            · rw [he, Nat.min_eq_left h2]
            · rw [List.drop_eq_nil_of_le (by rw [hsl]; omega), List.drop_eq_nil_of_le (by rw [hsl]; omega)]
          have hes : (b.extract 0 e).size ≤ 1048576 := by rw [ByteArray.size_extract]; omega
          have hesz : (b.extract 0 e).size = e := by rw [ByteArray.size_extract]; omega
          have hce : chunkB s.data.toList zN t k = ⟨(chunkL k t (b.extract 0 e).data.toList).toArray⟩ := by
            unfold chunkB
            rw [hpe]
          have HCE := Lib.hid hce
          have HNX := Lib.hid hnx
          have J := Lib.hid (fun W hW => implChunk (k : Int) (t : Int) (b.extract 0 e) W (by omega) (by omega) (by omega) (by omega) hes (HTB.out.below hW))
          have hmin : (min (zN : Int) (b.size : Int)).toNat = e := by omega
          have heb : e ≤ b.size := by omega
          clear hown hb hpe hce hes he hnx
          go_wp2_with fail
          refine (J.out _ HB.out).mono ?_
          rintro e1 w1 ⟨rfl, hb1⟩
          have hO1 := (HO.out.later hb1).row
          rw [HRL.out] at hO1
          have HO1 := Lib.hid hO1
          have hs1 : w.heap.size ≤ w1.heap.size := Nat.le_trans hsz0 hb1.size
          have HB1 := Lib.hid (HB.out.trans (hb1.mono hsz0))
          clear hO1 hb1 J HO HB
          go_wp2_with (at_builtin; refine wpList_push1 rfl _ _ 40 rfl w.heap.size 9 (.string ByteArray.empty) 16 Tryz.underlying40 infoW rfl _ _ _ rfl HO1.out _ 1 rfl (by rfl) (by omega) (by omega) hs1 ?_; intro v' w9 hown' hb9 hg9)
          go_roundw
          case rel =>
            refine ⟨k + 1, _, by omega, by go_num, rfl, HNX, ?_, HB1.out.trans hb9⟩
            rw [range_snoc, HCE.out]
            exact OwnW.of hown' (by simp)
          case measure => simp [intOf]; omega
        · obtain rfl : k = t := by omega
          have HO := Lib.hid hown
          clear hlt hk hown
          go_wp2_with fail
          go_ret
          exact ⟨_, rfl, by rw [HF.out]; exact HO.out, hb⟩
end Go.Proofs.YtpdpejlcilnafaaGreatDoor.kit
namespace Go.Proofs.YtpdpejlcilnafaaGreatDoor.kit
open Go.ChangeShapes Go.WideShapes Go.ChangeAt Go.RowKit
set_option linter.unusedVariables false

def isDig (b : UInt8) : Bool := decide (48 ≤ b.toNat ∧ b.toNat ≤ 57)
/-- the number that a list's digits stand for; what is no digit is passed over -/
def dsum (l : List UInt8) : Nat := l.foldl (fun a b => if isDig b then a * 10 + (b.toNat - 48) else a) 0
def dcount (l : List UInt8) : Nat := (l.filter isDig).length
theorem dsum_snoc (l : List UInt8) (b : UInt8) : dsum (l ++ [b]) = if isDig b then dsum l * 10 + (b.toNat - 48) else dsum l := by simp [dsum]
theorem dcount_snoc (l : List UInt8) (b : UInt8) : dcount (l ++ [b]) = if isDig b then dcount l + 1 else dcount l := by
  unfold dcount
  rw [List.filter_append, List.length_append]
  cases h : isDig b <;> simp [h]
theorem dsum_lt (l : List UInt8) : dsum l < 10 ^ dcount l := by
  induction l using bytes_rec with
  | h0 => simp [dsum, dcount]
  | h1 l b ih =>
    rw [dsum_snoc, dcount_snoc]
    cases h : isDig b with
    | false => simpa using ih
    | true =>
      have hb : b.toNat ≤ 57 := by unfold isDig at h; simp at h; omega
      simp only [if_true, Nat.pow_succ]
      omega
theorem dcount_le (l : List UInt8) : dcount l ≤ l.length := List.length_filter_le _ _
theorem digit_at : ∀ k : Nat, k < 10 → isDig (UInt8.ofNat (48 + k)) = true ∧ (UInt8.ofNat (48 + k)).toNat = 48 + k := by decide +kernel
theorem dec_sum : ∀ u : Nat, dsum (Lib.decDigits u) = u ∧ dcount (Lib.decDigits u) = (Lib.decDigits u).length ∧ (∀ b ∈ Lib.decDigits u, isDig b = true) := by
  intro u
  induction u using Nat.strongRecOn with
  | _ u ih =>
    by_cases h : u < 10
    · rw [decDigits_small h]
      have hd := digit_at u h
      refine ⟨?_, ?_, ?_⟩
      · have := dsum_snoc [] (UInt8.ofNat (48 + u))
        rw [List.nil_append] at this
        rw [this, if_pos hd.1, hd.2]; simp [dsum]
      · have := dcount_snoc [] (UInt8.ofNat (48 + u))
        rw [List.nil_append] at this
        rw [this, if_pos hd.1]; rfl
      · intro b hb
        simp only [List.mem_singleton] at hb
        rw [hb]; exact hd.1
    · rw [decDigits_big h]
      have hd := digit_at (u % 10) (Nat.mod_lt _ (by omega))
      have hi := ih (u / 10) (by omega)
      refine ⟨?_, ?_, ?_⟩
      · rw [dsum_snoc, if_pos hd.1, hd.2, hi.1]; omega
      · rw [dcount_snoc, if_pos hd.1, hi.2.1, List.length_append]; rfl
      · intro b hb
        rcases List.mem_append.1 hb with hb | hb
        · exact hi.2.2 b hb
        · simp only [List.mem_singleton] at hb
          rw [hb]; exact hd.1
theorem decDigits_length_le {u : Nat} (h : u < 1000000000) : (Lib.decDigits u).length ≤ 9 := decDigits_length 8 u h
theorem not_dig_minus : isDig 45 = false := by decide
theorem decDigits_pos (u : Nat) : 0 < (Lib.decDigits u).length := by
  by_cases h : u < 10
  · rw [decDigits_small h]; simp
  · rw [decDigits_big h]; simp
theorem decDigits_head (u : Nat) : (Lib.decDigits u).head? ≠ some 45 := by
  intro h
  have := (dec_sum u).2.2 45 (List.mem_of_mem_head? h)
  rw [not_dig_minus] at this
  cases this

/-- the number that a numeral's text stands for: minus where it begins so -/
def cand (l : List UInt8) : Int := if l.head? = some 45 then -(dsum l : Int) else dsum l
theorem dsum_minus (l : List UInt8) : dsum (45 :: l) = dsum l := by
  unfold dsum
  rw [List.foldl_cons, not_dig_minus]; rfl
theorem dcount_minus (l : List UInt8) : dcount (45 :: l) = dcount l := by
  unfold dcount
  rw [List.filter_cons, not_dig_minus]; rfl
theorem cand_itoa (n : Int) : cand (Lib.itoa n) = n := by
  unfold Lib.itoa cand
  by_cases h : n < 0
  · rw [if_pos h, List.head?_cons, if_pos rfl, dsum_minus, (dec_sum n.natAbs).1]; omega
  · rw [if_neg h, if_neg (decDigits_head _), (dec_sum n.toNat).1]; omega
theorem itoa_count {n : Int} : dcount (Lib.itoa n) = (Lib.decDigits n.natAbs).length := by
  unfold Lib.itoa
  by_cases h : n < 0
  · rw [if_pos h, dcount_minus, (dec_sum _).2.1]
  · rw [if_neg h, (dec_sum _).2.1]
    congr 1
    congr 1
    omega
theorem itoa_length {n : Int} : (Lib.itoa n).length ≤ (Lib.decDigits n.natAbs).length + 1 := by
  unfold Lib.itoa
  by_cases h : n < 0
  · rw [if_pos h]; simp
  · rw [if_neg h, show n.toNat = n.natAbs by omega]; omega
theorem decDigits_lt {u k : Nat} (h : (Lib.decDigits u).length ≤ k) : u < 10 ^ k := by
  have h1 := dsum_lt (Lib.decDigits u)
  rw [(dec_sum u).1, (dec_sum u).2.1] at h1
  exact Nat.lt_of_lt_of_le h1 (Nat.pow_le_pow_right (by omega) h)

/-- ParseInt's two results: the number whose numeral is l, if it has at most nine digits -/
def parOk (l : List UInt8) : Bool := decide (Lib.itoa (cand l) = l ∧ (cand l).natAbs < 1000000000)
def parN (l : List UInt8) : Int := if parOk l then cand l else 0
theorem par_yes {l : List UInt8} {n : Int} (h : Lib.itoa n = l) (hn : n.natAbs < 1000000000) : parOk l = true ∧ parN l = n := by
  subst h
  have h1 : parOk (Lib.itoa n) = true := by unfold parOk; rw [cand_itoa]; simpa using hn
  exact ⟨h1, by unfold parN; rw [h1, cand_itoa]; rfl⟩
theorem par_no {l : List UInt8} (h : ∀ n : Int, n.natAbs < 1000000000 → Lib.itoa n ≠ l) : parOk l = false ∧ parN l = 0 := by
  have h1 : parOk l = false := by
    unfold parOk
    rw [decide_eq_false]
    intro ⟨h2, h3⟩
    exact h _ h3 h2
  exact ⟨h1, by unfold parN; rw [h1]; rfl⟩
theorem par_long {l : List UInt8} (h : 10 < l.length) : parOk l = false ∧ parN l = 0 := par_no fun n hn he => by
  subst he
  have h1 := itoa_length (n := n)
  have h2 := decDigits_length_le hn
  omega
theorem par_many {l : List UInt8} (h : 9 < dcount l) : parOk l = false ∧ parN l = 0 := par_no fun n hn he => by
  subst he
  have h1 := itoa_count (n := n)
  have h2 := decDigits_length_le hn
  omega
theorem cand_lt {l : List UInt8} (h : dcount l ≤ 9) : (cand l).natAbs < 1000000000 := by
  have h1 := dsum_lt l
  have h2 := Nat.pow_le_pow_right (show 10 > 0 by omega) h
  have h3 : 10 ^ 9 = 1000000000 := by decide
  unfold cand
  split <;> omega
theorem par_same {l : List UInt8} (hc : dcount l ≤ 9) (h : Lib.itoa (cand l) = l) : parOk l = true ∧ parN l = cand l := par_yes h (cand_lt hc)
theorem par_other {l : List UInt8} (h : Lib.itoa (cand l) ≠ l) : parOk l = false ∧ parN l = 0 := par_no fun n _ he => by
  subst he
  rw [cand_itoa] at h
  exact h rfl

set_option maxRecDepth 100000 in
set_option maxHeartbeats 4000000 in
theorem specParseInt (s : ByteArray) (w : World) (hs : s.size ≤ 1048576) :
    Calls Tryz.prog 121 #[.string s] w fun e w' => e = .returned (.tuple #[.int .i64 (parN s.data.toList), .bool (parOk s.data.toList)]) ∧ Below w.heap.size w w' := by
  have hsz : s.data.toList.length = s.size := by rw [Array.length_toList]; rfl
  have HZ := Lib.hid hsz
  clear hsz
  go_enter Tryz.func121, Tryz.ntmps121
  go_wp2_with fail
  go_loop [4, 5, 6] (fun n c i => ∃ k m q : Nat, k ≤ s.size ∧ k ≤ 11 ∧ i = .int .i64 k ∧ n = .int .i64 m ∧ c = .int .i64 q ∧ Hid (m = dsum (s.data.toList.take k)) ∧ Hid (q = dcount (s.data.toList.take k))) (fun _ _ i => s.size - (intOf i).toNat)
  case atStart => exact ⟨0, 0, 0, by omega, by omega, rfl, rfl, rfl, Lib.hid rfl, Lib.hid rfl⟩
  case round =>
    obtain ⟨k, m, q, hks, hk11, rfl, rfl, rfl, hm, hq⟩ := hrel
    have hq11 : q ≤ k := by
      rw [hq.out]
      exact Nat.le_trans (dcount_le _) (List.length_take_le _ _)
    have hm11 : m < 100000000000 := by
      have h1 := dsum_lt (s.data.toList.take k)
      rw [← hm.out, ← hq.out] at h1
      have h2 := Nat.pow_le_pow_right (show 10 > 0 by omega) (show q ≤ 11 by omega)
      have h3 : 10 ^ 11 = 100000000000 := by decide
      omega
    by_cases hlt : k < s.size
    · by_cases h11 : k < 11
      · have ht := Lib.hid (take_snoc s k hlt)
        have hbk : s[k].toNat < 256 := s[k].toNat_lt
        by_cases h48 : 48 ≤ s[k].toNat
        · by_cases h57 : s[k].toNat ≤ 57
          · have hd : isDig s[k] = true := by unfold isDig; simp; omega
            have HM : Hid (m * 10 + (s[k].toNat - 48) = dsum (s.data.toList.take (k + 1))) := Lib.hid (by rw [ht.out, dsum_snoc, if_pos hd, ← hm.out])
            have HQ : Hid (q + 1 = dcount (s.data.toList.take (k + 1))) := Lib.hid (by rw [ht.out, dcount_snoc, if_pos hd, ← hq.out])
            clear hd
            go_wp2_with fail
            go_round
            case rel => exact ⟨k + 1, m * 10 + (s[k].toNat - 48), q + 1, by omega, by omega, by go_num, by go_num, by go_num, HM, HQ⟩
            case measure => simp [intOf]; omega
          · have hd : isDig s[k] = false := by unfold isDig; simp; omega
            have HM : Hid (m = dsum (s.data.toList.take (k + 1))) := Lib.hid (by rw [ht.out, dsum_snoc, hd, ← hm.out]; rfl)
            have HQ : Hid (q = dcount (s.data.toList.take (k + 1))) := Lib.hid (by rw [ht.out, dcount_snoc, hd, ← hq.out]; rfl)
            clear hd
            go_wp2_with fail
            go_round
            case rel => exact ⟨k + 1, m, q, by omega, by omega, by go_num, rfl, rfl, HM, HQ⟩
            case measure => simp [intOf]; omega
        · have hd : isDig s[k] = false := by unfold isDig; simp; omega
          have HM : Hid (m = dsum (s.data.toList.take (k + 1))) := Lib.hid (by rw [ht.out, dsum_snoc, hd, ← hm.out]; rfl)
          have HQ : Hid (q = dcount (s.data.toList.take (k + 1))) := Lib.hid (by rw [ht.out, dcount_snoc, hd, ← hq.out]; rfl)
          clear hd
          go_wp2_with fail
          go_round
          case rel => exact ⟨k + 1, m, q, by omega, by omega, by go_num, rfl, rfl, HM, HQ⟩
          case measure => simp [intOf]; omega
      · have HD := Lib.hid (par_long (l := s.data.toList) (by rw [HZ.out]; omega))
        have hlong : (10 : Int) < s.size := by omega
        go_wp2_with fail
        all_goals
          go_ret2
          exact ⟨by rw [HD.out.1, HD.out.2]; rfl, Below.refl _ _⟩
    · obtain rfl : k = s.size := by omega
      have hfull : s.data.toList.take s.size = s.data.toList := List.take_of_length_le (by rw [HZ.out]; omega)
      rw [hfull] at hm hq
      clear hfull
      by_cases h10 : s.size ≤ 10
      · by_cases hq9 : q ≤ 9
        · have hcount : Hid (dcount s.data.toList ≤ 9) := Lib.hid (by rw [← hq.out]; exact hq9)
          by_cases h0 : 0 < s.size
          · have hhead : Hid (s.data.toList.head? = some s[0]) := Lib.hid (by
              have h1 : 0 < s.data.toList.length := by rw [HZ.out]; exact h0
              rw [List.head?_eq_getElem?, List.getElem?_eq_getElem h1]; rfl)
            by_cases hneg : s[0] = 45
            · have g1 : (((s[0]'h0).toNat : Int) == 45) = true := by rw [hneg]; rfl
              have hc : Hid (cand s.data.toList = -(m : Int)) := Lib.hid (by unfold cand; rw [hhead.out, hneg, if_pos rfl, ← hm.out])
              clear hneg
              by_cases he : Lib.itoa (-(m : Int)) = s.data.toList
              · have HD := Lib.hid (par_same (l := s.data.toList) hcount.out (by rw [hc.out]; exact he))
                have g2 : (Lib.itoa (-(m : Int)) == s.toList) = true := by rw [ByteArray.toList_eq]; simpa using he
                clear he
                go_wp2_with (go_at_call 46; refine (specFormatInt _ _ (by omega) (by omega)).mono ?_; rintro e w1 ⟨rfl, hb1⟩)
                go_ret2
                exact ⟨by rw [HD.out.1, HD.out.2, hc.out]; rfl, hb1⟩
              · have HD := Lib.hid (par_other (l := s.data.toList) (by rw [hc.out]; exact he))
                have g2 : (Lib.itoa (-(m : Int)) == s.toList) = false := by rw [ByteArray.toList_eq]; simpa using he
                clear he
                go_wp2_with (go_at_call 46; refine (specFormatInt _ _ (by omega) (by omega)).mono ?_; rintro e w1 ⟨rfl, hb1⟩)
                go_ret2
                exact ⟨by rw [HD.out.1, HD.out.2]; rfl, hb1⟩
            · have g1 : (((s[0]'h0).toNat : Int) == 45) = false := by
                rw [beq_eq_false_iff_ne]
                intro h
                exact hneg (UInt8.toNat.inj (by show _ = 45; omega))
              have hc : Hid (cand s.data.toList = (m : Int)) := Lib.hid (by unfold cand; rw [hhead.out, if_neg (fun h => hneg (Option.some.inj h)), ← hm.out])
              clear hneg
              by_cases he : Lib.itoa (m : Int) = s.data.toList
              · have HD := Lib.hid (par_same (l := s.data.toList) hcount.out (by rw [hc.out]; exact he))
                have g2 : (Lib.itoa (m : Int) == s.toList) = true := by rw [ByteArray.toList_eq]; simpa using he
                clear he
                go_wp2_with (go_at_call 46; refine (specFormatInt _ _ (by omega) (by omega)).mono ?_; rintro e w1 ⟨rfl, hb1⟩)
                go_ret2
                exact ⟨by rw [HD.out.1, HD.out.2, hc.out]; rfl, hb1⟩
              · have HD := Lib.hid (par_other (l := s.data.toList) (by rw [hc.out]; exact he))
                have g2 : (Lib.itoa (m : Int) == s.toList) = false := by rw [ByteArray.toList_eq]; simpa using he
                clear he
                go_wp2_with (go_at_call 46; refine (specFormatInt _ _ (by omega) (by omega)).mono ?_; rintro e w1 ⟨rfl, hb1⟩)
                go_ret2
                exact ⟨by rw [HD.out.1, HD.out.2]; rfl, hb1⟩
          · have hnil : s.data.toList = [] := List.eq_nil_of_length_eq_zero (by rw [HZ.out]; omega)
            have hm0 : m = 0 := by rw [hm.out, hnil]; rfl
            subst hm0
            have hc : cand s.data.toList = ((0 : Nat) : Int) := by rw [hnil]; rfl
            have hi0 : Lib.itoa ((0 : Nat) : Int) = [48] := by unfold Lib.itoa; rw [if_neg (by omega)]; exact decDigits_small (by decide)
            have HD := Lib.hid (par_other (l := s.data.toList) (by rw [hc, hi0, hnil]; simp))
            have g2 : (Lib.itoa (0 : Int) == s.toList) = false := by rw [ByteArray.toList_eq, hnil, show (0 : Int) = ((0 : Nat) : Int) from rfl, hi0]; rfl
            clear hc hi0 hnil
            go_wp2_with (go_at_call 46; refine (specFormatInt _ _ (by omega) (by omega)).mono ?_; rintro e w1 ⟨rfl, hb1⟩)
            go_ret2
            exact ⟨by rw [HD.out.1, HD.out.2]; rfl, hb1⟩
        · have HD := Lib.hid (par_many (l := s.data.toList) (by rw [← hq.out]; omega))
          have hlong : (9 : Int) < q := by omega
          go_wp2_with fail
          all_goals
            go_ret2
            exact ⟨by rw [HD.out.1, HD.out.2]; rfl, Below.refl _ _⟩
      · have HD := Lib.hid (par_long (l := s.data.toList) (by rw [HZ.out]; omega))
        have hlong : (10 : Int) < s.size := by omega
        go_wp2_with fail
        all_goals
          go_ret2
          exact ⟨by rw [HD.out.1, HD.out.2]; rfl, Below.refl _ _⟩
end Go.Proofs.YtpdpejlcilnafaaGreatDoor.kit
namespace Go.Proofs.YtpdpejlcilnafaaGreatDoor.kit
set_option linter.unusedVariables false
set_option linter.unusedSimpArgs false

/-- cut at every x -/
def cuts (x : UInt8) : List UInt8 → List (List UInt8)
  | [] => [[]]
  | b :: l => if b = x then [] :: cuts x l else (b :: (cuts x l).headD []) :: (cuts x l).tail
theorem cuts_ne (x : UInt8) (l : List UInt8) : cuts x l ≠ [] := by
  cases l with
  | nil => simp [cuts]
  | cons b l => unfold cuts; split <;> simp
theorem cuts_none {x : UInt8} {p : List UInt8} (h : x ∉ p) : cuts x p = [p] := by
  induction p with
  | nil => rfl
  | cons b p ih =>
    have hb : b ≠ x := fun e => h (by rw [e]; simp)
    have hp : x ∉ p := fun e => h (by simp [e])
    unfold cuts
    rw [if_neg hb, ih hp]; rfl
theorem cuts_app {x : UInt8} {p r : List UInt8} (h : x ∉ p) : cuts x (p ++ x :: r) = p :: cuts x r := by
  induction p with
  | nil => simp [cuts]
  | cons b p ih =>
    have hb : b ≠ x := fun e => h (by rw [e]; simp)
    have hp : x ∉ p := fun e => h (by simp [e])
    rw [List.cons_append, cuts, if_neg hb, ih hp]; rfl
theorem cuts_len (x : UInt8) (l : List UInt8) : (cuts x l).length ≤ l.length + 1 := by
  induction l with
  | nil => simp [cuts]
  | cons b l ih =>
    unfold cuts
    split
    · simp; omega
    · have := List.length_pos_iff.2 (cuts_ne x l)
      simp [List.length_tail]; omega

theorem cuts_mem {x : UInt8} {l p : List UInt8} (h : p ∈ cuts x l) : p.length ≤ l.length := by
  induction l generalizing p with
  | nil => simp [cuts] at h; simp [h]
  | cons b l ih =>
    unfold cuts at h
    split at h
    · rcases List.mem_cons.1 h with rfl | h
      · simp
      · have := ih h; simp; omega
    · have hne := cuts_ne x l
      generalize cuts x l = q at h ih hne
      cases q with
      | nil => exact absurd rfl hne
      | cons a q =>
        rcases List.mem_cons.1 h with rfl | h
        · have := ih (p := a) (by simp); simpa using this
        · have := ih (p := p) (List.mem_cons_of_mem _ h); simp; omega
theorem cuts_getD {x : UInt8} {l : List UInt8} (j : Nat) : ((cuts x l).getD j []).length ≤ l.length := by
  rcases Nat.lt_or_ge j (cuts x l).length with h | h
  · rw [List.getD_eq_getElem?_getD, List.getElem?_eq_getElem h]; exact cuts_mem (List.getElem_mem h)
  · rw [List.getD_eq_getElem?_getD, List.getElem?_eq_none h]; simp

theorem indexByte_app {x : UInt8} {p r : List UInt8} (h : x ∉ p) : Lib.indexByte (p ++ x :: r) x = p.length := by
  induction p with
  | nil => simp [Lib.indexByte]
  | cons b p ih =>
    have hb : (b == x) = false := by rw [beq_eq_false_iff_ne]; exact fun e => h (by rw [e]; simp)
    have hp : x ∉ p := fun e => h (by simp [e])
    have h1 : ((p.length : Int) == -1) = false := by rw [beq_eq_false_iff_ne]; omega
    rw [List.cons_append, Lib.indexByte, hb, ih hp, h1]; simp
theorem indexByte_no {x : UInt8} {p : List UInt8} (h : x ∉ p) : Lib.indexByte p x = -1 := by
  induction p with
  | nil => rfl
  | cons b p ih =>
    have hb : (b == x) = false := by rw [beq_eq_false_iff_ne]; exact fun e => h (by rw [e]; simp)
    have hp : x ∉ p := fun e => h (by simp [e])
    rw [Lib.indexByte, hb, ih hp]; simp
/-- a text holds x, and then it is what lies ahead of the first x, x, and the rest; or it does not -/
theorem first_x (x : UInt8) (l : List UInt8) : x ∉ l ∨ ∃ p r, x ∉ p ∧ l = p ++ x :: r := by
  induction l with
  | nil => exact .inl (by simp)
  | cons b l ih =>
    by_cases hb : b = x
    · subst hb; exact .inr ⟨[], l, by simp, rfl⟩
    · rcases ih with h | ⟨p, r, h, rfl⟩
      · exact .inl (by simp [Ne.symm hb, h])
      · exact .inr ⟨b :: p, r, by simp [Ne.symm hb, h], rfl⟩
theorem split_none {x : UInt8} {p : List UInt8} (h : x ∉ p) (k : Nat) : Lib.splitK [x] 0 k p = [p] := by
  cases k with
  | zero => rfl
  | succ k => rw [Lib.splitK, Lib.index_one, indexByte_no h]; rfl
theorem split_app {x : UInt8} {p r : List UInt8} (h : x ∉ p) (k : Nat) : Lib.splitK [x] 0 (k + 1) (p ++ x :: r) = p :: Lib.splitK [x] 0 k r := by
  have h1 : ((p.length : Int) == -1) = false := by rw [beq_eq_false_iff_ne]; omega
  have e : (p ++ x :: r).drop (p.length + 1) = r := by rw [show p ++ x :: r = (p ++ [x]) ++ r by simp, List.drop_left' (by simp)]
  rw [Lib.splitK, Lib.index_one, indexByte_app h, h1]
  simp [e]
theorem cut_none {x : UInt8} {p : List UInt8} (h : x ∉ p) : Lib.cut p [x] = (p, [], false) := by
  unfold Lib.cut
  rw [Lib.index_one, indexByte_no h]; simp
theorem cut_app {x : UInt8} {p r : List UInt8} (h : x ∉ p) : Lib.cut (p ++ x :: r) [x] = (p, r, true) := by
  have e : (p ++ x :: r).drop (p.length + 1) = r := by rw [show p ++ x :: r = (p ++ [x]) ++ r by simp, List.drop_left' (by simp)]
  unfold Lib.cut
  rw [Lib.index_one, indexByte_app h]
  simp [e]
/-- the pieces, joined again -/
def joinX (x : UInt8) : List (List UInt8) → List UInt8
  | [] => []
  | [p] => p
  | p :: ps => p ++ x :: joinX x ps
theorem join_split (x : UInt8) : ∀ (k : Nat) (l : List UInt8), joinX x (Lib.splitK [x] 0 k l) = l
  | 0, l => rfl
  | k + 1, l => by
    rcases first_x x l with h | ⟨p, r, h, rfl⟩
    · rw [split_none h]; rfl
    · rw [split_app h]
      have ih := join_split x k r
      generalize hq : Lib.splitK [x] 0 k r = q at ih
      cases q with
      | nil => cases k <;> (unfold Lib.splitK at hq; first | (split at hq <;> cases hq) | cases hq)
      | cons a q => rw [joinX, ih]; simp
theorem split_pos (x : UInt8) (k : Nat) (l : List UInt8) : 0 < (Lib.splitK [x] 0 k l).length := by
  cases k with
  | zero => simp [Lib.splitK]
  | succ k => unfold Lib.splitK; split <;> simp

/-! ### numerals hold no blank and no dot -/
theorem itoa_byte {n : Int} (h : 0 ≤ n) : ∀ b ∈ Lib.itoa n, 48 ≤ b.toNat ∧ b.toNat ≤ 57 := by
  intro b hb
  unfold Lib.itoa at hb
  rw [if_neg (by omega)] at hb
  have := (dec_sum n.toNat).2.2 b hb
  unfold isDig at this
  exact of_decide_eq_true this
theorem itoa_no {n : Int} (h : 0 ≤ n) {x : UInt8} (hx : x.toNat < 48) : x ∉ Lib.itoa n := fun hb => by have := itoa_byte h x hb; omega
theorem par_itoa {n : Int} (h0 : 0 ≤ n) (h1 : n < 1000000000) : parOk (Lib.itoa n) = true ∧ parN (Lib.itoa n) = n := par_yes rfl (by omega)
theorem itoa_par {l : List UInt8} (h : parOk l = true) : Lib.itoa (parN l) = l := by
  unfold parN
  rw [h]
  exact (of_decide_eq_true h).1
theorem par_nil : parOk [] = false := by
  cases h : parOk [] with
  | false => rfl
  | true =>
    have := itoa_par h
    have hp : 0 < (Lib.itoa (parN [])).length := by
      unfold Lib.itoa
      split
      · simp
      · exact decDigits_pos _
    rw [this] at hp; simp at hp

/-- a number from 0 up, else -1 -/
def numL (l : List UInt8) : Int := if parOk l && decide (0 ≤ parN l) then parN l else -1
theorem num_itoa {n : Int} (h0 : 0 ≤ n) (h1 : n < 1000000000) : numL (Lib.itoa n) = n := by
  have := par_itoa h0 h1
  unfold numL
  rw [this.1, this.2, decide_eq_true h0]; rfl
def allPar (ps : List (List UInt8)) : Bool := ps.all parOk
theorem cuts_join {x : UInt8} : ∀ {ps : List (List UInt8)}, ps ≠ [] → (∀ p ∈ ps, x ∉ p) → cuts x (joinX x ps) = ps
  | [], h, _ => absurd rfl h
  | [p], _, h => cuts_none (h p (by simp))
  | p :: q :: ps, _, h => by
    rw [joinX, cuts_app (h p (by simp)), cuts_join (by simp) (fun y hy => h y (by simp only [List.mem_cons] at hy ⊢; exact .inr hy))]
    simp
theorem split_join {x : UInt8} : ∀ {ps : List (List UInt8)} {k : Nat}, ps ≠ [] → (∀ p ∈ ps, x ∉ p) → ps.length ≤ k + 1 → Lib.splitK [x] 0 k (joinX x ps) = ps
  | [], _, h, _, _ => absurd rfl h
  | [p], k, _, h, _ => split_none (h p (by simp)) k
  | p :: q :: ps, 0, _, _, hl => by simp at hl
  | p :: q :: ps, k + 1, _, h, hl => by
    rw [joinX, split_app (h p (by simp)), split_join (by simp) (fun y hy => h y (by simp only [List.mem_cons] at hy ⊢; exact .inr hy)) (by simpa using hl)]
    simp
theorem join_joinX (x : UInt8) : ∀ ps : List (List UInt8), Lib.join ps [x] = joinX x ps
  | [] => rfl
  | [p] => by rw [Lib.join_cons]; simp [Lib.joinTail, joinX]
  | p :: q :: ps => by
    have ih := join_joinX x (q :: ps)
    rw [Lib.join_cons] at ih ⊢
    have e : joinX x (p :: q :: ps) = p ++ x :: joinX x (q :: ps) := by simp [joinX]
    rw [e, ← ih]
    simp [Lib.joinTail]
theorem split_mem (x : UInt8) : ∀ (k : Nat) (l p : List UInt8), p ∈ Lib.splitK [x] 0 k l → p.length ≤ l.length
  | 0, l, p, h => by
    rw [show Lib.splitK [x] 0 0 l = [l] from rfl, List.mem_singleton] at h
    rw [h]; exact Nat.le_refl _
  | k + 1, l, p, h => by
    rcases first_x x l with hf | ⟨a, r, hf, rfl⟩
    · rw [split_none hf, List.mem_singleton] at h
      rw [h]; exact Nat.le_refl _
    · rw [split_app hf] at h
      rcases List.mem_cons.1 h with rfl | h
      · simp
      · have := split_mem x k r p h
        simp; omega
theorem cut_len (p : List UInt8) : (Lib.cut p [46]).1.length ≤ p.length ∧ (Lib.cut p [46]).2.1.length ≤ p.length := by
  rcases first_x 46 p with h | ⟨a, r, h, rfl⟩
  · rw [cut_none h]; simp
  · rw [cut_app h]; simp; omega
end Go.Proofs.YtpdpejlcilnafaaGreatDoor.kit
namespace Go.Proofs.YtpdpejlcilnafaaGreatDoor.kit
open Go.ChangeShapes Go.WideShapes Go.ChangeAt Go.RowKit
set_option linter.unusedVariables false

theorem first_unique {x : UInt8} {p r p' r' : List UInt8} (h : p ++ x :: r = p' ++ x :: r') (h1 : x ∉ p) (h2 : x ∉ p') : p = p' ∧ r = r' := by
  induction p generalizing p' with
  | nil =>
    cases p' with
    | nil => simpa using h
    | cons y q => simp at h h2; exact absurd h.1 h2.1
  | cons z p ih =>
    cases p' with
    | nil => simp at h h1; exact absurd h.1.symm h1.1
    | cons y q =>
      simp only [List.cons_append, List.cons.injEq] at h
      obtain ⟨rfl, h⟩ := h
      obtain ⟨rfl, rfl⟩ := ih h (fun m => h1 (by simp [m])) (fun m => h2 (by simp [m]))
      exact ⟨rfl, rfl⟩
theorem last_unique {x : UInt8} {p r p' r' : List UInt8} (h : p ++ x :: r = p' ++ x :: r') (h1 : x ∉ r) (h2 : x ∉ r') : p = p' ∧ r = r' := by
  have e := congrArg List.reverse h
  simp only [List.reverse_append, List.reverse_cons, List.append_assoc, List.cons_append, List.nil_append] at e
  obtain ⟨e1, e2⟩ := first_unique e (by simpa using h1) (by simpa using h2)
  exact ⟨List.reverse_inj.1 e2, List.reverse_inj.1 e1⟩
/-- a part's numbers and data that some string has -/
def okK (i n : Int) (d : List UInt8) : Prop := 0 ≤ i ∧ i < n ∧ n ≤ 40 ∧ (d = [] → n = 1)
instance (i n : Int) (d : List UInt8) : Decidable (okK i n d) := inferInstanceAs (Decidable (_ ∧ _ ∧ _ ∧ _))
/-- the text s is the chunk of this part -/
def ReadsC (s : List UInt8) (i n : Int) (d : List UInt8) : Prop := okK i n d ∧ chunkL i n d = s
instance (s : List UInt8) (i n : Int) (d : List UInt8) : Decidable (ReadsC s i n d) := inferInstanceAs (Decidable (_ ∧ _))
theorem no58 {n : Int} (h : 0 ≤ n) : (58 : UInt8) ∉ Lib.itoa n := fun hb => by have := (itoa_byte h 58 hb).2; revert this; decide
/-- the last # of a chunk's text ends its content -/
theorem ReadsC.last {s : List UInt8} {i n : Int} {d c x : List UInt8} (h : ReadsC s i n d) (hs : s = c ++ 35 :: x) (hx : (35 : UInt8) ∉ x) : c = conL i n d := by
  have h1 := h.2
  unfold chunkL at h1
  rw [List.append_assoc, hs] at h1
  have := cksum_in (conL i n d)
  exact (last_unique (p := conL i n d) (r := Lib.itoa (cksum (conL i n d))) (by simpa using h1) (itoa_no (by omega) (by decide)) hx).1.symm
/-- a chunk's content parts at the first / and the first : behind -/
theorem con_parts {i n : Int} {d p t v : List UInt8} (h : okK i n d) (hs : conL i n d = p ++ 47 :: (t ++ 58 :: v)) (hp : (47 : UInt8) ∉ p) (ht : (58 : UInt8) ∉ t) : p = Lib.itoa i ∧ t = Lib.itoa n ∧ v = d := by
  obtain ⟨h0, h1, h2, h3⟩ := h
  unfold conL at hs
  simp only [List.append_assoc, List.cons_append, List.nil_append] at hs
  obtain ⟨rfl, e⟩ := first_unique hs (itoa_no h0 (by decide)) hp
  obtain ⟨rfl, rfl⟩ := first_unique e (no58 (by omega)) ht
  exact ⟨rfl, rfl, rfl⟩
theorem con_has {i n : Int} {d : List UInt8} : conL i n d = Lib.itoa i ++ 47 :: (Lib.itoa n ++ 58 :: d) := by unfold conL; simp
theorem ReadsC.form {s : List UInt8} {i n : Int} {d : List UInt8} (h : ReadsC s i n d) : s = Lib.itoa i ++ 47 :: (Lib.itoa n ++ 58 :: (d ++ 35 :: Lib.itoa (cksum (conL i n d)))) := by
  rw [← h.2]
  unfold chunkL
  rw [con_has]
  simp
theorem ReadsC.parts {s : List UInt8} {i n : Int} {d p t v x : List UInt8} (h : ReadsC s i n d) (hs : s = p ++ 47 :: (t ++ 58 :: (v ++ 35 :: x))) (hp : (47 : UInt8) ∉ p) (ht : (58 : UInt8) ∉ t) (hx : (35 : UInt8) ∉ x) : p = Lib.itoa i ∧ t = Lib.itoa n ∧ v = d := by
  have h1 := h.last (c := p ++ 47 :: (t ++ 58 :: v)) (by rw [hs]; simp) hx
  exact con_parts h.1 h1.symm hp ht
theorem itoa_inj {i j : Int} (h0 : 0 ≤ i) (h1 : i ≤ 40) (h2 : 0 ≤ j) (h3 : j ≤ 40) (h : Lib.itoa i = Lib.itoa j) : i = j := by
  have a := (par_itoa h0 (by omega)).2
  rw [h, (par_itoa h2 (by omega)).2] at a
  exact a.symm
theorem ReadsC.unique {s : List UInt8} {i n i' n' : Int} {d d' : List UInt8} (h : ReadsC s i n d) (h' : ReadsC s i' n' d') : i = i' ∧ n = n' ∧ d = d' := by
  have hc := cksum_in (conL i n d)
  obtain ⟨e1, e2, e3⟩ := h'.parts h.form (itoa_no h.1.1 (by decide)) (no58 (by have := h.1; unfold okK at this; omega)) (itoa_no (by omega) (by decide))
  have a := h.1
  have b := h'.1
  unfold okK at a b
  exact ⟨itoa_inj (by omega) (by omega) (by omega) (by omega) e1, itoa_inj (by omega) (by omega) (by omega) (by omega) e2, e3⟩
/-- what the text s says: index, number of parts, data, whether it is a chunk -/
noncomputable def readC (s : List UInt8) : Int × Int × List UInt8 × Bool := open Classical in
  if h : ∃ x : Int × Int × List UInt8, ReadsC s x.1 x.2.1 x.2.2 then ((Classical.choose h).1, (Classical.choose h).2.1, (Classical.choose h).2.2, true) else (0, 0, [], false)
theorem readC_yes {s : List UInt8} {i n : Int} {d : List UInt8} (h : ReadsC s i n d) : readC s = (i, n, d, true) := by
  have hex : ∃ x : Int × Int × List UInt8, ReadsC s x.1 x.2.1 x.2.2 := ⟨(i, n, d), h⟩
  unfold readC
  rw [dif_pos hex]
  obtain ⟨e1, e2, e3⟩ := (Classical.choose_spec hex).unique h
  rw [e1, e2, e3]
theorem readC_no {s : List UInt8} (h : ∀ i n d, ¬ ReadsC s i n d) : readC s = (0, 0, [], false) := by
  unfold readC
  rw [dif_neg (fun ⟨x, hx⟩ => h _ _ _ hx)]
theorem readC_cases (s : List UInt8) : (readC s = (0, 0, [], false) ∧ ∀ i n d, ¬ ReadsC s i n d) ∨ ∃ i n d, ReadsC s i n d ∧ readC s = (i, n, d, true) := by
  by_cases h : ∃ x : Int × Int × List UInt8, ReadsC s x.1 x.2.1 x.2.2
  · obtain ⟨⟨i, n, d⟩, h⟩ := h
    exact .inr ⟨i, n, d, h, readC_yes h⟩
  · have h' : ∀ i n d, ¬ ReadsC s i n d := fun i n d hr => h ⟨(i, n, d), hr⟩
    exact .inl ⟨readC_no h', h'⟩
/-- the text read at given places, as both programs do: where the numbers' texts are p and t, the data v -/
theorem reads_at {s p t v x : List UInt8} (hs : s = p ++ 47 :: (t ++ 58 :: (v ++ 35 :: x))) (hp : (47 : UInt8) ∉ p) (ht : (58 : UInt8) ∉ t) (hx : (35 : UInt8) ∉ x) {i n : Int} {d : List UInt8} (h : ReadsC s i n d) : numL p = i ∧ numL t = n ∧ v = d ∧ parOk p = true ∧ parN p = i ∧ parOk t = true ∧ parN t = n := by
  obtain ⟨rfl, rfl, rfl⟩ := h.parts hs hp ht hx
  have a := h.1
  unfold okK at a
  have h1 := par_itoa (n := i) (by omega) (by omega)
  have h2 := par_itoa (n := n) (by omega) (by omega)
  exact ⟨num_itoa (by omega) (by omega), num_itoa (by omega) (by omega), rfl, h1.1, h1.2, h2.1, h2.2⟩
theorem reads_no47 {s : List UInt8} (h : (47 : UInt8) ∉ s) : readC s = (0, 0, [], false) := readC_no fun i n d hr => h (by rw [hr.form]; simp)
theorem reads_no58 {s p r : List UInt8} (hs : s = p ++ 47 :: r) (hp : (47 : UInt8) ∉ p) (h : (58 : UInt8) ∉ r) : readC s = (0, 0, [], false) := readC_no fun i n d hr => h (by
  have e := hr.form
  rw [hs] at e
  rw [(first_unique e hp (itoa_no hr.1.1 (by decide))).2]; simp)
theorem reads_no35 {s p t u : List UInt8} (hs : s = p ++ 47 :: (t ++ 58 :: u)) (hp : (47 : UInt8) ∉ p) (ht : (58 : UInt8) ∉ t) (h : (35 : UInt8) ∉ u) : readC s = (0, 0, [], false) := readC_no fun i n d hr => h (by
  have e := hr.form
  rw [hs] at e
  have a := hr.1
  unfold okK at a
  obtain ⟨_, e2⟩ := first_unique e hp (itoa_no a.1 (by decide))
  rw [(first_unique e2 ht (no58 (by omega))).2]; simp)
end Go.Proofs.YtpdpejlcilnafaaGreatDoor.kit
namespace Go.Proofs.YtpdpejlcilnafaaGreatDoor.kit
open Go.ChangeShapes Go.WideShapes Go.ChangeAt Go.RowKit
set_option linter.unusedVariables false

theorem size_mk (l : List UInt8) : (⟨l.toArray⟩ : ByteArray).size = l.length := by simp [ByteArray.size]
/-- strings as cells -/
abbrev strs (ps : List (List UInt8)) : List Value := ps.map fun p => str p
theorem infoS : (Tryz.prog.info? 9).map (fun i => (i.zero, i.size, i.bytes)) = some (some (.string ByteArray.empty), 1, 16) := by kernel_rfl
theorem ext_str (s : ByteArray) (a b : Nat) : Value.string (s.extract a b) = str ((s.data.toList.drop a).take (b - a)) := by
  unfold str
  congr 1
  apply ByteArray.ext
  apply Array.ext'
  rw [Lib.extract_data]
/-- what a row of strings says of its cells -/
theorem strs_there {base : Nat} {w : World} {v : Value} {ps : List (List UInt8)} (h : w.ownsRow base 9 1 v ps.length (strs ps)) (h0 : 0 < ps.length) :
    ∃ g cap, v = .slice (some ⟨g, 0, none⟩) ps.length cap ∧ ps.length ≤ cap ∧ cap ≤ maxLen ∧ base ≤ g ∧ g < w.heap.size ∧ ∀ j, j < ps.length → w.cell? ⟨g, j, none⟩ = some (str (ps.getD j [])) := by
  rcases h.2 with ⟨rfl, h1⟩ | ⟨g, c, cur, rfl, hg, hh, hn, hm, _⟩
  · omega
  · refine ⟨g, c, rfl, hn, hm, hg, (Array.getElem?_eq_some_iff.1 hh).1, fun j hj => ?_⟩
    rw [h.cellAt j (by omega)]
    simp [strs, List.getD, hj]


set_option maxRecDepth 100000 in
theorem numFrom (s : ByteArray) (w : World) (hs : s.size ≤ 1048576) :
    Calls Tryz.prog 94 #[.string s] w fun e w' => e = .returned (.int .i64 (numL s.data.toList)) ∧ Below w.heap.size w w' := by
  have C1 := Lib.hid (specParseInt s w hs)
  by_cases h1 : parOk s.data.toList = true
  · by_cases h2 : 0 ≤ parN s.data.toList
    · have HE := Lib.hid (show numL s.data.toList = parN s.data.toList by unfold numL; rw [h1, decide_eq_true h2]; rfl)
      rw [h1] at C1
      generalize parN s.data.toList = n at *
      have g1 : decide (n < 0) = false := by simp; omega
      clear h1
      go_enter Tryz.func94, Tryz.ntmps94
      go_wp2_with (go_at_call 121; refine (C1.out).mono ?_; rintro e w1 ⟨rfl, hb⟩)
      go_ret
      exact ⟨by rw [HE.out]; rfl, hb⟩
    · have HE := Lib.hid (show numL s.data.toList = -1 by unfold numL; rw [h1, decide_eq_false h2]; rfl)
      rw [h1] at C1
      generalize parN s.data.toList = n at *
      have g1 : decide (n < 0) = true := by simp; omega
      clear h1
      go_enter Tryz.func94, Tryz.ntmps94
      go_wp2_with (go_at_call 121; refine (C1.out).mono ?_; rintro e w1 ⟨rfl, hb⟩)
      go_ret
      exact ⟨by rw [HE.out]; rfl, hb⟩
  · have h1 : parOk s.data.toList = false := by simpa using h1
    have HE := Lib.hid (show numL s.data.toList = -1 by unfold numL; rw [h1]; rfl)
    rw [h1] at C1
    generalize parN s.data.toList = n at *
    clear h1
    go_enter Tryz.func94, Tryz.ntmps94
    go_wp2_with (go_at_call 121; refine (C1.out).mono ?_; rintro e w1 ⟨rfl, hb⟩)
    go_ret
    exact ⟨by rw [HE.out]; rfl, hb⟩
end Go.Proofs.YtpdpejlcilnafaaGreatDoor.kit
namespace Go.Proofs.YtpdpejlcilnafaaGreatDoor.kit
open Go.ChangeShapes Go.WideShapes Go.ChangeAt Go.RowKit
set_option linter.unusedVariables false

theorem at_get (s : ByteArray) (k : Nat) (h : k < s.size) : s.data.toList.drop k = s[k] :: s.data.toList.drop (k + 1) := by
  rw [List.drop_eq_getElem_cons (by rw [toL_len]; exact h)]
  rfl
theorem take_get (s : ByteArray) (k : Nat) (h : k < s.size) : s.data.toList.take (k + 1) = s.data.toList.take k ++ [s[k]] := by
  rw [List.take_succ_eq_append_getElem (by rw [toL_len]; exact h)]
  rfl
theorem mid_get (s : ByteArray) (m k : Nat) (h : k < s.size) (hm : m ≤ k) : (s.data.toList.drop m).take (k + 1 - m) = (s.data.toList.drop m).take (k - m) ++ [s[k]] := by
  rw [show k + 1 - m = (k - m) + 1 by omega]
  have hl : k - m < (s.data.toList.drop m).length := by rw [List.length_drop, toL_len]; omega
  rw [List.take_succ_eq_append_getElem hl]
  simp [List.getElem_drop, show m + (k - m) = k by omega]
  rfl
/-- the text parted at three places -/
theorem parted (s : ByteArray) {a b z : Nat} (ha : a < s.size) (hb : b < s.size) (hz : z < s.size) (h1 : a < b) (h2 : b < z) :
    s.data.toList = s.data.toList.take a ++ s[a] :: ((s.data.toList.drop (a + 1)).take (b - (a + 1)) ++ s[b] :: ((s.data.toList.drop (b + 1)).take (z - (b + 1)) ++ s[z] :: s.data.toList.drop (z + 1))) := by
  have e3 : (s.data.toList.drop (b + 1)).take (z - (b + 1)) ++ s[z] :: s.data.toList.drop (z + 1) = s.data.toList.drop (b + 1) := by
    rw [← at_get s z hz]
    have := List.take_append_drop (z - (b + 1)) (s.data.toList.drop (b + 1))
    rw [List.drop_drop, show b + 1 + (z - (b + 1)) = z by omega] at this
    exact this
  have e2 : (s.data.toList.drop (a + 1)).take (b - (a + 1)) ++ s[b] :: s.data.toList.drop (b + 1) = s.data.toList.drop (a + 1) := by
    rw [← at_get s b hb]
    have := List.take_append_drop (b - (a + 1)) (s.data.toList.drop (a + 1))
    rw [List.drop_drop, show a + 1 + (b - (a + 1)) = b by omega] at this
    exact this
  rw [e3, e2, ← at_get s a ha, List.take_append_drop]
theorem parted2 (s : ByteArray) {a b : Nat} (ha : a < s.size) (hb : b < s.size) (h1 : a < b) :
    s.data.toList = s.data.toList.take a ++ s[a] :: ((s.data.toList.drop (a + 1)).take (b - (a + 1)) ++ s[b] :: s.data.toList.drop (b + 1)) := by
  have e2 : (s.data.toList.drop (a + 1)).take (b - (a + 1)) ++ s[b] :: s.data.toList.drop (b + 1) = s.data.toList.drop (a + 1) := by
    rw [← at_get s b hb]
    have := List.take_append_drop (b - (a + 1)) (s.data.toList.drop (a + 1))
    rw [List.drop_drop, show a + 1 + (b - (a + 1)) = b by omega] at this
    exact this
  rw [e2, ← at_get s a ha, List.take_append_drop]
/-- what is read where the three places are known -/
theorem read_dec {s p t v x : List UInt8} (hs : s = p ++ 47 :: (t ++ 58 :: (v ++ 35 :: x))) (hp : (47 : UInt8) ∉ p) (ht : (58 : UInt8) ∉ t) (hx : (35 : UInt8) ∉ x) :
    (ReadsC s (numL p) (numL t) v → readC s = (numL p, numL t, v, true)) ∧ (¬ ReadsC s (numL p) (numL t) v → readC s = (0, 0, [], false)) := by
  refine ⟨readC_yes, fun h => readC_no fun i n d hr => h ?_⟩
  obtain ⟨rfl, rfl, rfl, _⟩ := reads_at hs hp ht hx hr
  exact hr
noncomputable abbrev rdT (s : List UInt8) : Value := .tuple #[.int .i64 (readC s).1, .int .i64 (readC s).2.1, str (readC s).2.2.1, .bool (readC s).2.2.2]
theorem numL_in (l : List UInt8) : -1 ≤ numL l ∧ numL l < 1000000000 := by
  unfold numL
  split
  · rename_i h
    simp only [Bool.and_eq_true, decide_eq_true_eq] at h
    refine ⟨by omega, ?_⟩
    have h1 := h.1
    unfold parN
    rw [if_pos h1]
    unfold parOk at h1
    have := (of_decide_eq_true h1).2
    omega
  · omega
set_option maxRecDepth 100000 in
set_option maxHeartbeats 8000000 in
theorem specRead (s : ByteArray) (w : World) (hs : s.size ≤ 1048576) :
    Calls Tryz.prog 59 #[.string s] w fun e w' => e = .returned (rdT s.data.toList) ∧ Below w.heap.size w w' := by
  have hsl := toL_len s
  have HSL := Lib.hid hsl
  clear hsl
  go_enter Tryz.func59, Tryz.ntmps59
  go_wp2_with fail
  go_loopw [6] (fun i wr => ∃ k : Nat, k ≤ s.size ∧ i = .int .i64 k ∧ Hid ((47 : UInt8) ∉ s.data.toList.take k) ∧ w = wr) (fun i _ => s.size - (intOf i).toNat)
  case atStart => exact ⟨0, Nat.zero_le _, rfl, Lib.hid (by simp), rfl⟩
  case round =>
    obtain ⟨k, hk, rfl, HN, rfl⟩ := hrel
    by_cases hlt : k < s.size
    · have hbk : s[k].toNat < 256 := s[k].toNat_lt
      by_cases hq : s[k] = 47
      · have g1 : ((s[k].toNat : Int) != 47) = false := by rw [hq]; rfl
        have HQ := Lib.hid hq
        clear hq
        go_wp2_with fail
        go_loopw [7] (fun i wr => ∃ m : Nat, k ≤ m ∧ m ≤ s.size ∧ i = .int .i64 m ∧ Hid ((58 : UInt8) ∉ (s.data.toList.drop k).take (m - k)) ∧ w = wr) (fun i _ => s.size - (intOf i).toNat)
        case atStart => exact ⟨k, Nat.le_refl _, hk, rfl, Lib.hid (by simp), rfl⟩
        case round =>
          obtain ⟨m, hkm, hm, rfl, HM, rfl⟩ := hrel
          by_cases hml : m < s.size
          · by_cases hq : s[m] = 58
            · have g2 : ((s[m].toNat : Int) != 58) = false := by rw [hq]; rfl
              have hkm2 : k < m := by
                rcases Nat.lt_or_ge k m with h | h
                · exact h
                · have e : k = m := by omega
                  subst e
                  rw [HQ.out] at hq
                  cases hq
              have HQ2 := Lib.hid hq
              have HU : Hid ((58 : UInt8) ∉ (s.data.toList.drop (k + 1)).take (m - (k + 1))) := Lib.hid (fun h => HM.out (by
                rw [at_get s k hlt, show m - k = (m - (k + 1)) + 1 by omega, List.take_succ_cons]
                exact List.mem_cons_of_mem _ h))
              clear hq
              go_wp2_with fail
              go_loopw [8] (fun i wr => ∃ z : Nat, m ≤ z ∧ z < s.size ∧ i = .int .i64 z ∧ Hid ((35 : UInt8) ∉ s.data.toList.drop (z + 1)) ∧ w = wr) (fun i _ => (intOf i).toNat)
              case atStart => exact ⟨s.size - 1, by omega, by omega, by congr 1; omega, Lib.hid (by rw [List.drop_eq_nil_of_le (by rw [HSL.out]; omega)]; simp), rfl⟩
              case round =>
                obtain ⟨z, hmz, hz, rfl, HZ, rfl⟩ := hrel
                by_cases hzm : m < z
                · have g3 : decide ((z : Int) > (m : Int)) = true := decide_eq_true (by omega)
                  by_cases hq : s[z] = 35
                  · have g4 : ((s[z].toNat : Int) != 35) = false := by rw [hq]; rfl
                    have HP := Lib.hid (parted s hlt hml hz hkm2 hzm)
                    rw [HQ.out, HQ2.out, hq] at HP
                    have HD := Lib.hid (read_dec HP.out HN.out HU.out HZ.out)
                    have hp1 : (s.extract 0 k).data.toList = s.data.toList.take k := by rw [extL]; simp
                    have hp2 : (s.extract (k + 1) m).data.toList = (s.data.toList.drop (k + 1)).take (m - (k + 1)) := extL _ _ _
                    have hp3 : (s.extract (m + 1) z).data.toList = (s.data.toList.drop (m + 1)).take (z - (m + 1)) := extL _ _ _
                    have j1 := fun W => numFrom (s.extract 0 k) W (by rw [ByteArray.size_extract]; omega)
                    have j2 := fun W => numFrom (s.extract (k + 1) m) W (by rw [ByteArray.size_extract]; omega)
                    have hi := numL_in (s.data.toList.take k)
                    have hn := numL_in ((s.data.toList.drop (k + 1)).take (m - (k + 1)))
                    have hzl : z = m + 1 ↔ (s.data.toList.drop (m + 1)).take (z - (m + 1)) = [] := by
                      constructor
                      · intro h; rw [h, Nat.sub_self]; rfl
                      · intro h
                        have h1 := congrArg List.length h
                        rw [List.length_take, List.length_drop, HSL.out] at h1
                        simp only [List.length_nil] at h1
                        omega
                    rw [hp1] at j1
                    rw [hp2] at j2
                    generalize numL (s.data.toList.take k) = ni at *
                    generalize numL ((s.data.toList.drop (k + 1)).take (m - (k + 1))) = nn at *
                    generalize (s.data.toList.drop (m + 1)).take (z - (m + 1)) = d at *
                    have J1 := Lib.hid j1
                    have J2 := Lib.hid j2
                    have HZL := Lib.hid hzl
                    have HP3 := Lib.hid hp3
                    have g5 : decide ((m : Int) ≥ (s.size : Int)) = false := decide_eq_false (by omega)
                    have g6 : decide ((z : Int) ≤ (m : Int)) = false := decide_eq_false (by omega)
                    clear hq j1 j2 hp1 hp2 hp3 HP hzl
                    go_wp2_with fail
                    refine (J1.out _).mono ?_
                    rintro e w1 ⟨rfl, hb1⟩
                    have HB1 := Lib.hid hb1
                    clear hb1
                    go_wp2_with fail
                    refine (J2.out _).mono ?_
                    rintro e w2 ⟨rfl, hb2⟩
                    have HB2 := Lib.hid (HB1.out.trans (hb2.mono HB1.out.size))
                    clear hb2 HB1
                    have I1 := Lib.hid (fun W => in_c nn 1 40 W)
                    have I2 := Lib.hid (fun W => in_c ni 0 (nn - 1) W)
                    by_cases c1 : 1 ≤ nn ∧ nn ≤ 40
                    · have t1 := Lib.hid (decide_eq_true c1)
                      by_cases c2 : 0 ≤ ni ∧ ni ≤ nn - 1
                      · have t2 := Lib.hid (decide_eq_true c2)
                        by_cases c5 : nn > 1
                        · have t5 : decide (nn > 1) = true := decide_eq_true c5
                          by_cases c6 : z = m + 1
                          · have HF := Lib.hid (HD.out.2 (fun h => by have h1 := h.1.2.2.2 (HZL.out.1 c6); omega))
                            have t6 : ((z : Int) == (m : Int) + 1) = true := by rw [beq_iff_eq]; omega
                            clear c1 c2 c5 c6
                            go_wp2_with fail
                            refine (I1.out _).mono ?_
                            rintro e w3 ⟨he, rfl⟩
                            rw [t1.out] at he
                            subst he
                            go_wp2_with fail
                            refine (I2.out _).mono ?_
                            rintro e w3 ⟨he, rfl⟩
                            rw [t2.out] at he
                            subst he
                            go_wp2_with fail
                            refine bodyPost_ret (v := .tuple #[.int .i64 0, .int .i64 0, str [], .bool false]) (by simp [results, Tryz.results59, go_sem]) rfl ?_
                            exact ⟨by unfold rdT; rw [HF.out], HB2.out⟩
                          · have t6 : ((z : Int) == (m : Int) + 1) = false := by rw [beq_eq_false_iff_ne]; omega
                            have c3 : d = [] → nn = 1 := fun h => absurd (HZL.out.2 h) c6
                            have jc := fun W => specChunk ni nn (s.extract (m + 1) z) W (by omega) (by omega) (by omega) (by omega) (by rw [ByteArray.size_extract]; omega)
                            rw [HP3.out] at jc
                            have JC := Lib.hid jc
                            clear jc
                            have HOK := Lib.hid (show okK ni nn d from ⟨c2.1, by omega, c1.2, c3⟩)
                            clear c1 c2 c3
                            go_wp2_with fail
                            refine (I1.out _).mono ?_
                            rintro e w3 ⟨he, rfl⟩
                            rw [t1.out] at he
                            subst he
                            go_wp2_with fail
                            refine (I2.out _).mono ?_
                            rintro e w3 ⟨he, rfl⟩
                            rw [t2.out] at he
                            subst he
                            go_wp2_with fail
                            refine (JC.out _).mono ?_
                            rintro e w5 ⟨rfl, hb5⟩
                            have HB5 := Lib.hid (HB2.out.trans (hb5.mono HB2.out.size))
                            clear hb5
                            by_cases c4 : chunkL ni nn d = s.data.toList
                            · have t4 : (chunkL ni nn d == s.toList) = true := by rw [beq_iff_eq, ByteArray.toList_eq]; exact c4
                              have HF := Lib.hid (HD.out.1 ⟨HOK.out, c4⟩)
                              have HX := Lib.hid (ext_mk HP3.out)
                              have k1 : (0 : Int) ≤ (m : Int) + 1 := by omega
                              have k2 : m + 1 ≤ z := by omega
                              have k3 : z ≤ s.size := by omega
                              clear c4
                              go_wp2_with fail
                              go_quiet (fail)
                              go_wp2_with fail
                              refine bodyPost_ret (v := .tuple #[.int .i64 ni, .int .i64 nn, .string (s.extract (m + 1) z), .bool true]) (by simp [results, Tryz.results59, go_sem]) rfl ?_
                              exact ⟨by unfold rdT; rw [HF.out, HX.out], (below_drewN HB5.out _)⟩
                            · have t4 : (chunkL ni nn d == s.toList) = false := by rw [beq_eq_false_iff_ne, ByteArray.toList_eq]; exact c4
                              have HF := Lib.hid (HD.out.2 (fun h => c4 h.2))
                              clear c4
                              go_wp2_with fail
                              refine bodyPost_ret (v := .tuple #[.int .i64 0, .int .i64 0, str [], .bool false]) (by simp [results, Tryz.results59, go_sem]) rfl ?_
                              exact ⟨by unfold rdT; rw [HF.out], HB5.out⟩
                        · have t5 : decide (nn > 1) = false := decide_eq_false c5
                          have c3 : d = [] → nn = 1 := fun _ => by omega
                          have jc := fun W => specChunk ni nn (s.extract (m + 1) z) W (by omega) (by omega) (by omega) (by omega) (by rw [ByteArray.size_extract]; omega)
                          rw [HP3.out] at jc
                          have JC := Lib.hid jc
                          clear jc
                          have HOK := Lib.hid (show okK ni nn d from ⟨c2.1, by omega, c1.2, c3⟩)
                          clear c1 c2 c3
                          go_wp2_with fail
                          refine (I1.out _).mono ?_
                          rintro e w3 ⟨he, rfl⟩
                          rw [t1.out] at he
                          subst he
                          go_wp2_with fail
                          refine (I2.out _).mono ?_
                          rintro e w3 ⟨he, rfl⟩
                          rw [t2.out] at he
                          subst he
                          go_wp2_with fail
                          refine (JC.out _).mono ?_
                          rintro e w5 ⟨rfl, hb5⟩
                          have HB5 := Lib.hid (HB2.out.trans (hb5.mono HB2.out.size))
                          clear hb5
                          by_cases c4 : chunkL ni nn d = s.data.toList
                          · have t4 : (chunkL ni nn d == s.toList) = true := by rw [beq_iff_eq, ByteArray.toList_eq]; exact c4
                            have HF := Lib.hid (HD.out.1 ⟨HOK.out, c4⟩)
                            have HX := Lib.hid (ext_mk HP3.out)
                            have k1 : (0 : Int) ≤ (m : Int) + 1 := by omega
                            have k2 : m + 1 ≤ z := by omega
                            have k3 : z ≤ s.size := by omega
                            clear c4
                            go_wp2_with fail
                            go_quiet (fail)
                            go_wp2_with fail
                            refine bodyPost_ret (v := .tuple #[.int .i64 ni, .int .i64 nn, .string (s.extract (m + 1) z), .bool true]) (by simp [results, Tryz.results59, go_sem]) rfl ?_
                            exact ⟨by unfold rdT; rw [HF.out, HX.out], (below_drewN HB5.out _)⟩
                          · have t4 : (chunkL ni nn d == s.toList) = false := by rw [beq_eq_false_iff_ne, ByteArray.toList_eq]; exact c4
                            have HF := Lib.hid (HD.out.2 (fun h => c4 h.2))
                            clear c4
                            go_wp2_with fail
                            refine bodyPost_ret (v := .tuple #[.int .i64 0, .int .i64 0, str [], .bool false]) (by simp [results, Tryz.results59, go_sem]) rfl ?_
                            exact ⟨by unfold rdT; rw [HF.out], HB5.out⟩
                      · have t2 := Lib.hid (decide_eq_false c2)
                        have HF := Lib.hid (HD.out.2 (fun h => c2 (by have := h.1; unfold okK at this; omega)))
                        clear c1 c2
                        go_wp2_with fail
                        refine (I1.out _).mono ?_
                        rintro e w3 ⟨he, rfl⟩
                        rw [t1.out] at he
                        subst he
                        go_wp2_with fail
                        refine (I2.out _).mono ?_
                        rintro e w3 ⟨he, rfl⟩
                        rw [t2.out] at he
                        subst he
                        go_wp2_with fail
                        refine bodyPost_ret (v := .tuple #[.int .i64 0, .int .i64 0, str [], .bool false]) (by simp [results, Tryz.results59, go_sem]) rfl ?_
                        exact ⟨by unfold rdT; rw [HF.out], HB2.out⟩
                    · have t1 := Lib.hid (decide_eq_false c1)
                      have HF := Lib.hid (HD.out.2 (fun h => c1 (by have := h.1; unfold okK at this; omega)))
                      clear c1
                      go_wp2_with fail
                      refine (I1.out _).mono ?_
                      rintro e w3 ⟨he, rfl⟩
                      rw [t1.out] at he
                      subst he
                      go_wp2_with fail
                      refine bodyPost_ret (v := .tuple #[.int .i64 0, .int .i64 0, str [], .bool false]) (by simp [results, Tryz.results59, go_sem]) rfl ?_
                      exact ⟨by unfold rdT; rw [HF.out], HB2.out⟩
                  · have g4 : ((s[z].toNat : Int) != 35) = true := by
                      rw [bne_iff_ne]; intro h; apply hq; apply UInt8.toNat.inj; show s[z].toNat = 35; omega
                    have HZ2 := Lib.hid (show (35 : UInt8) ∉ s.data.toList.drop (z - 1 + 1) by rw [show z - 1 + 1 = z by omega, at_get s z hz]; simp [HZ.out, Ne.symm hq])
                    clear hq
                    go_wp2_with fail
                    go_roundw
                    case rel => exact ⟨z - 1, by omega, by omega, by congr 1; omega, HZ2, trivial⟩
                    case measure => simp [intOf]; omega
                · obtain rfl : m = z := by omega
                  have g3 : decide ((m : Int) > (m : Int)) = false := decide_eq_false (by omega)
                  have HP := Lib.hid (parted2 s hlt hml hkm2)
                  rw [HQ.out, HQ2.out] at HP
                  have HF := Lib.hid (reads_no35 HP.out HN.out HU.out HZ.out)
                  have g5 : decide ((m : Int) ≥ (s.size : Int)) = false := decide_eq_false (by omega)
                  have g6 : decide ((m : Int) ≤ (m : Int)) = true := decide_eq_true (by omega)
                  go_wp2_with fail
                  refine bodyPost_ret (v := .tuple #[.int .i64 0, .int .i64 0, str [], .bool false]) (by simp [results, Tryz.results59, go_sem]) rfl ?_
                  exact ⟨by unfold rdT; rw [HF.out], Below.refl _ _⟩
            · have g2 : ((s[m].toNat : Int) != 58) = true := by
                rw [bne_iff_ne]; intro h; apply hq; apply UInt8.toNat.inj; show s[m].toNat = 58; omega
              have HM2 := Lib.hid (show (58 : UInt8) ∉ (s.data.toList.drop k).take (m + 1 - k) by rw [mid_get s k m hml hkm]; simp [HM.out, Ne.symm hq])
              clear hq
              go_wp2_with fail
              go_roundw
              case rel => exact ⟨m + 1, by omega, by omega, by go_num, HM2, trivial⟩
              case measure => simp [intOf]; omega
          · obtain rfl : m = s.size := by omega
            have hu : (58 : UInt8) ∉ s.data.toList.drop (k + 1) := fun h => HM.out (by
              rw [List.take_of_length_le (by rw [List.length_drop, HSL.out]; omega), at_get s k hlt]
              exact List.mem_cons_of_mem _ h)
            have he : s.data.toList = s.data.toList.take k ++ 47 :: s.data.toList.drop (k + 1) := by
              have h1 := at_get s k hlt
              rw [HQ.out] at h1
              rw [← h1, List.take_append_drop]
            have HF := Lib.hid (reads_no58 he HN.out hu)
            have g3 : decide ((s.size : Int) - 1 > (s.size : Int)) = false := decide_eq_false (by omega)
            have g5 : decide ((s.size : Int) ≥ (s.size : Int)) = true := decide_eq_true (by omega)
            clear hu he hml HM
            go_wp2_with fail
            refine wp_loop_rounds 1 ?_
            rw [rounds_succ]
            go_wp2_with fail
            refine bodyPost_ret (v := .tuple #[.int .i64 0, .int .i64 0, str [], .bool false]) (by simp [results, Tryz.results59, go_sem]) rfl ?_
            exact ⟨by unfold rdT; rw [HF.out], Below.refl _ _⟩
      · have g1 : ((s[k].toNat : Int) != 47) = true := by
          rw [bne_iff_ne]; intro h; apply hq; apply UInt8.toNat.inj; show s[k].toNat = 47; omega
        have HN2 := Lib.hid (show (47 : UInt8) ∉ s.data.toList.take (k + 1) by rw [take_get s k hlt]; simp [HN.out, Ne.symm hq])
        clear hq
        go_wp2_with fail
        go_roundw
        case rel => exact ⟨k + 1, by omega, by go_num, HN2, trivial⟩
        case measure => simp [intOf]; omega
    · obtain rfl : k = s.size := by omega
      have hno : (47 : UInt8) ∉ s.data.toList := by have := HN.out; rwa [List.take_of_length_le (by rw [HSL.out]; exact Nat.le_refl _)] at this
      have HF := Lib.hid (reads_no47 hno)
      have g3 : decide ((s.size : Int) - 1 > (s.size : Int)) = false := decide_eq_false (by omega)
      have g5 : decide ((s.size : Int) ≥ (s.size : Int)) = true := decide_eq_true (by omega)
      clear hno HN
      go_wp2_with fail
      refine wp_loop_rounds 1 ?_
      rw [rounds_succ]
      go_wp2_with fail
      refine wp_loop_rounds 1 ?_
      rw [rounds_succ]
      go_wp2_with fail
      refine bodyPost_ret (v := .tuple #[.int .i64 0, .int .i64 0, str [], .bool false]) (by simp [results, Tryz.results59, go_sem]) rfl ?_
      exact ⟨by unfold rdT; rw [HF.out], Below.refl _ _⟩
end Go.Proofs.YtpdpejlcilnafaaGreatDoor.kit
namespace Go.Proofs.YtpdpejlcilnafaaGreatDoor.kit
open Go.ChangeShapes Go.WideShapes Go.ChangeAt Go.RowKit
set_option linter.unusedVariables false

/-- the first empty string's place; the length if there is none -/
def fE : List ByteArray → Nat
  | [] => 0
  | b :: r => if b.toList.isEmpty = true then 0 else fE r + 1
theorem fE_of : ∀ (l : List ByteArray) (k : Nat), k ≤ l.length → (∀ j, j < k → (l.getD j .empty).toList.isEmpty = false) → (k < l.length → (l.getD k .empty).toList.isEmpty = true) → fE l = k
  | [], k, h, _, _ => by
    have : k = 0 := by simpa using h
    subst this; rfl
  | b :: r, 0, _, _, h => by
    have := h (by simp)
    unfold fE
    rw [if_pos (by simpa using this)]
  | b :: r, k + 1, h1, h2, h3 => by
    have hb : b.toList.isEmpty = false := h2 0 (by omega)
    unfold fE
    rw [if_neg (by simp [hb]), fE_of r k (by simpa using h1) (fun j hj => h2 (j + 1) (by omega)) (fun p => h3 (by simpa using p))]
/-- the missing chunk -/
def missC (l : List ByteArray) (t : Int) : Int := if fE l < l.length then (fE l : Int) else if l.length = 0 ∧ 0 < t then 0 else -1
/-- slices.Index at "" -/
def idxE (l : List ByteArray) : Int := if fE l < l.length then (fE l : Int) else -1
theorem idxE_at {l : List ByteArray} {k : Nat} (h : k < l.length) (h1 : ∀ j, j < k → (l.getD j .empty).toList.isEmpty = false) (h2 : (l.getD k .empty).toList.isEmpty = true) : idxE l = (k : Int) ∧ ∀ t, missC l t = (k : Int) := by
  have e := fE_of l k (by omega) h1 (fun _ => h2)
  unfold idxE missC
  rw [e, if_pos h]
  exact ⟨rfl, fun t => by rw [if_pos h]⟩
theorem idxE_none {l : List ByteArray} (h1 : ∀ j, j < l.length → (l.getD j .empty).toList.isEmpty = false) : idxE l = -1 ∧ ∀ t, missC l t = if l.length = 0 ∧ 0 < t then 0 else -1 := by
  have e := fE_of l l.length (Nat.le_refl _) h1 (fun h => absurd h (Nat.lt_irrefl _))
  unfold idxE missC
  rw [e, if_neg (Nat.lt_irrefl _)]
  exact ⟨rfl, fun t => by rw [if_neg (Nat.lt_irrefl _)]⟩
theorem idxE_miss {l : List ByteArray} {t : Int} (h : ¬ (l.length = 0 ∧ 0 < t)) : missC l t = idxE l := by
  unfold missC idxE
  rw [if_neg h]
set_option maxRecDepth 100000 in
theorem specMissingChunkA (a : Option Addr) (c : Nat) (l : List ByteArray) (t : Int) (w : World) (hl : l.length ≤ 4194304) (ha : AtW w a l) :
    Calls Tryz.prog 25 #[.slice a l.length c, .int .i64 t] w fun e w' => e = .returned (.int .i64 (missC l t)) ∧ w = w' := by
  have HA := Lib.hid ha
  clear ha
  go_enter Tryz.func25, Tryz.ntmps25
  go_wp2_with fail
  go_loop [5] (fun i => ∃ k : Nat, k ≤ l.length ∧ i = .int .i64 k ∧ Hid (∀ j, j < k → (l.getD j .empty).toList.isEmpty = false)) (fun i => l.length - (intOf i).toNat)
  case atStart => exact ⟨0, Nat.zero_le _, rfl, Lib.hid (fun j h => by omega)⟩
  case round =>
    obtain ⟨k, hk, rfl, HE⟩ := hrel
    by_cases hlt : k < l.length
    · skip
      obtain ⟨x, rfl, hx, hc⟩ := HA.out k hlt
      have k3 : (0 : Int) ≤ (k : Int) := by omega
      have k5 : (k : Int) < (l.length : Int) := by omega
      obtain ⟨z, hz⟩ : ∃ z, l.getD k .empty = z := ⟨_, rfl⟩
      rw [hz] at hc
      cases hq : z.toList.isEmpty with
      | true =>
        have HF := Lib.hid ((idxE_at hlt HE.out (by rw [hz]; exact hq)).2 t)
        clear hz
        go_wp2_with fail
        go_ret
        exact ⟨by rw [HF.out]; rfl, rfl⟩
      | false =>
        have HE2 := Lib.hid (show ∀ j, j < k + 1 → (l.getD j .empty).toList.isEmpty = false from fun j hj => by
          by_cases e : j = k
          · rw [e, hz]; exact hq
          · exact HE.out j (by omega))
        clear hz
        go_wp2_with fail
        go_round
        case rel => exact ⟨k + 1, by omega, by go_num, HE2⟩
        case measure => simp [intOf]; omega
    · obtain rfl : k = l.length := by omega
      have HF := Lib.hid ((idxE_none HE.out).2 t)
      clear hlt hk
      by_cases h0 : l.length = 0
      · by_cases ht : 0 < t
        · rw [if_pos ⟨h0, ht⟩] at HF
          have g0 : ((l.length : Int) == 0) = true := by rw [beq_iff_eq]; omega
          have g1 : decide (t > 0) = true := decide_eq_true ht
          clear h0 ht
          go_wp2_with fail
          go_ret
          exact ⟨by rw [HF.out]; rfl, rfl⟩
        · rw [if_neg (fun h => ht h.2)] at HF
          have g0 : ((l.length : Int) == 0) = true := by rw [beq_iff_eq]; omega
          have g1 : decide (t > 0) = false := decide_eq_false ht
          clear h0 ht
          go_wp2_with fail
          go_ret
          exact ⟨by rw [HF.out]; rfl, rfl⟩
      · rw [if_neg (fun h => h0 h.1)] at HF
        have g0 : ((l.length : Int) == 0) = false := by rw [beq_eq_false_iff_ne]; omega
        clear h0
        go_wp2_with fail
        go_ret
        exact ⟨by rw [HF.out]; rfl, rfl⟩
theorem specMissingChunk (b : Nat) (v : Value) (l : List ByteArray) (t : Int) (w : World) (h : l.length ≤ 4194304) (hs : sumW l l.length ≤ 1048576) (o : OwnW b w v l) :
    Calls Tryz.prog 25 #[v, .int .i64 t] w fun e w' => e = .returned (.int .i64 (missC l t)) ∧ Below w.heap.size w w' := by
  obtain ⟨a, c, rfl, _, _, at1, _⟩ := o.form
  exact (specMissingChunkA a c l t w h at1).mono fun e w' ⟨he, hw⟩ => ⟨he, hw ▸ Below.refl _ _⟩
set_option maxRecDepth 100000 in
theorem slicesIndexE (a : Option Addr) (c : Nat) (l : List ByteArray) (w : World) (hl : l.length ≤ 4194304) (ha : AtW w a l) :
    Calls Tryz.prog 53 #[.slice a l.length c, .string ByteArray.empty] w fun e w' => e = .returned (.int .i64 (idxE l)) ∧ w = w' := by
  have HA := Lib.hid ha
  clear ha
  go_enter Tryz.func53, Tryz.ntmps53
  go_wp2_with fail
  go_loop [5, 8] (fun _ i => ∃ k : Nat, k ≤ l.length ∧ i = .int .i64 k ∧ Hid (∀ j, j < k → (l.getD j .empty).toList.isEmpty = false)) (fun _ i => l.length - (intOf i).toNat)
  case atStart => exact ⟨0, Nat.zero_le _, rfl, Lib.hid (fun j h => by omega)⟩
  case round =>
    obtain ⟨k, hk, rfl, HE⟩ := hrel
    by_cases hlt : k < l.length
    · skip
      obtain ⟨x, rfl, hx, hc⟩ := HA.out k hlt
      have k3 : (0 : Int) ≤ (k : Int) := by omega
      have k5 : (k : Int) < (l.length : Int) := by omega
      obtain ⟨z, hz⟩ : ∃ z, l.getD k .empty = z := ⟨_, rfl⟩
      rw [hz] at hc
      have hq0 : ([] == z.toList) = z.toList.isEmpty := by cases z.toList <;> rfl
      cases hq : z.toList.isEmpty with
      | true =>
        have HF := Lib.hid (idxE_at hlt HE.out (by rw [hz]; exact hq)).1
        rw [hq] at hq0
        clear hz hq
        go_wp2_with fail
        go_ret
        exact ⟨by rw [HF.out]; rfl, rfl⟩
      | false =>
        have HE2 := Lib.hid (show ∀ j, j < k + 1 → (l.getD j .empty).toList.isEmpty = false from fun j hj => by
          by_cases e : j = k
          · rw [e, hz]; exact hq
          · exact HE.out j (by omega))
        rw [hq] at hq0
        clear hz
        go_wp2_with fail
        go_round
        case rel => exact ⟨k + 1, by omega, by go_num, HE2⟩
        case measure => simp [intOf]; omega
    · obtain rfl : k = l.length := by omega
      have HF := Lib.hid (idxE_none HE.out).1
      clear hlt hk
      go_wp2_with fail
      go_ret
      exact ⟨by rw [HF.out]; rfl, rfl⟩
set_option maxRecDepth 100000 in
theorem implMissingChunk (b : Nat) (v : Value) (l : List ByteArray) (t : Int) (w : World) (h : l.length ≤ 4194304) (hs : sumW l l.length ≤ 1048576) (o : OwnW b w v l) :
    Calls Tryz.prog 17 #[v, .int .i64 t] w fun e w' => e = .returned (.int .i64 (missC l t)) ∧ Below w.heap.size w w' := by
  obtain ⟨a, c, rfl, _, _, at1, _⟩ := o.form
  have J := Lib.hid (slicesIndexE a c l w h at1)
  clear o at1
  by_cases h1 : l.length = 0 ∧ 0 < t
  · have HF := Lib.hid (show missC l t = 0 by
      unfold missC
      rw [if_neg (by omega), if_pos h1])
    have g0 : ((l.length : Int) == 0) = true := by rw [beq_iff_eq]; omega
    have g1 : decide (t > 0) = true := decide_eq_true h1.2
    clear h1
    go_enter Tryz.func17, Tryz.ntmps17
    go_wp2_with fail
    go_ret
    exact ⟨by rw [HF.out]; rfl, Below.refl _ _⟩
  · have HF := Lib.hid (idxE_miss h1)
    by_cases h0 : l.length = 0
    · have g0 : ((l.length : Int) == 0) = true := by rw [beq_iff_eq]; omega
      have g1 : decide (t > 0) = false := decide_eq_false (fun h => h1 ⟨h0, h⟩)
      clear h1 h0
      go_enter Tryz.func17, Tryz.ntmps17
      go_wp2_with fail
      refine J.out.mono ?_
      rintro e w1 ⟨rfl, rfl⟩
      go_wp2_with fail
      go_ret
      exact ⟨by rw [HF.out]; rfl, Below.refl _ _⟩
    · have g0 : ((l.length : Int) == 0) = false := by rw [beq_eq_false_iff_ne]; omega
      clear h1 h0
      go_enter Tryz.func17, Tryz.ntmps17
      go_wp2_with fail
      refine J.out.mono ?_
      rintro e w1 ⟨rfl, rfl⟩
      go_wp2_with fail
      go_ret
      exact ⟨by rw [HF.out]; rfl, Below.refl _ _⟩
end Go.Proofs.YtpdpejlcilnafaaGreatDoor.kit
namespace Go.Proofs.YtpdpejlcilnafaaGreatDoor.kit
open Go.ChangeShapes Go.WideShapes Go.ChangeAt Go.RowKit
set_option linter.unusedVariables false
set_option linter.unusedSimpArgs false

/-- whether a place takes the chunk -/
noncomputable def recOk (P : List ByteArray) (s : ByteArray) : Bool :=
  (readC s.data.toList).2.2.2 && (decide (P.length = 0) || (decide ((P.length : Int) = (readC s.data.toList).2.1) && (P.getD (readC s.data.toList).1.toNat .empty).toList.isEmpty))
/-- the places behind it -/
noncomputable def recL (P : List ByteArray) (s : ByteArray) : List ByteArray :=
  if recOk P s = true then (P ++ List.replicate ((readC s.data.toList).2.1.toNat - P.length) ByteArray.empty).set (readC s.data.toList).1.toNat s else P
theorem rec_no {P : List ByteArray} {s : ByteArray} (h : recOk P s = false) : recL P s = P := by unfold recL; rw [h]; rfl
theorem rec_bad {P : List ByteArray} {s : ByteArray} (h : readC s.data.toList = (0, 0, [], false)) : recOk P s = false ∧ recL P s = P := by
  have e : recOk P s = false := by unfold recOk; rw [h]; rfl
  exact ⟨e, rec_no e⟩
theorem rec_other {P : List ByteArray} {s : ByteArray} {i n : Int} {d : List UInt8} (h : readC s.data.toList = (i, n, d, true)) (h0 : 0 < P.length) (hn : (P.length : Int) ≠ n) : recOk P s = false ∧ recL P s = P := by
  have e : recOk P s = false := by
    unfold recOk; rw [h]
    simp only [Bool.true_and]
    rw [decide_eq_false (show ¬ P.length = 0 by omega), decide_eq_false hn]; rfl
  exact ⟨e, rec_no e⟩
theorem rec_taken {P : List ByteArray} {s : ByteArray} {i n : Int} {d : List UInt8} (h : readC s.data.toList = (i, n, d, true)) (h0 : 0 < P.length) (ht : (P.getD i.toNat .empty).toList.isEmpty = false) : recOk P s = false ∧ recL P s = P := by
  have e : recOk P s = false := by
    unfold recOk; rw [h]
    simp only [Bool.true_and]
    rw [decide_eq_false (show ¬ P.length = 0 by omega), ht, Bool.and_false]; rfl
  exact ⟨e, rec_no e⟩
theorem rec_yes {P : List ByteArray} {s : ByteArray} {i n : Int} {d : List UInt8} (h : readC s.data.toList = (i, n, d, true)) (hn : P.length = 0 ∨ ((P.length : Int) = n ∧ (P.getD i.toNat .empty).toList.isEmpty = true)) :
    recOk P s = true ∧ recL P s = (P ++ List.replicate (n.toNat - P.length) ByteArray.empty).set i.toNat s := by
  have e : recOk P s = true := by
    unfold recOk; rw [h]
    simp only [Bool.true_and]
    rcases hn with h0 | ⟨h1, h2⟩
    · rw [decide_eq_true h0]; rfl
    · rw [decide_eq_true h1, h2]; simp
  exact ⟨e, by unfold recL; rw [if_pos e, h]⟩
theorem OwnW.storedAt {b g cap : Nat} {w : World} {L : List ByteArray} (h : OwnW b w (.slice (some ⟨g, 0, none⟩) L.length cap) L) (n : Nat) (x : ByteArray) :
    OwnW b (w.setCell ⟨g, n, none⟩ (.string x)) (.slice (some ⟨g, 0, none⟩) L.length cap) (L.set n x) := by
  have h2 := h.row.stored n (.string x)
  refine OwnW.of (n := L.length) h2.1 ?_
  rw [List.map_set]
theorem cellW {b ga n c : Nat} {w : World} {l : List ByteArray} (h : OwnW b w (.slice (some ⟨ga, 0, none⟩) n c) l) (j : Nat) (hj : j < l.length) : w.cell? ⟨ga, j, none⟩ = some (.string (l.getD j .empty)) := by
  rcases h.2 with ⟨hv, _⟩ | ⟨q, cap, cur, hv, hg, hh, _⟩
  · cases hv
  · cases hv
    have := h.row.cellAt j (by omega)
    rw [this]
    simp [List.getD, hj]
theorem srcW_own {b : Nat} {w : World} {v : Value} {l : List ByteArray} (h : OwnW b w v l) : SrcW w.heap.size w v l := by
  rcases h.2 with ⟨rfl, h0⟩ | ⟨g, c, cur, rfl, hg, hh, hn, hm, hr⟩
  · exact .inl ⟨rfl, List.eq_nil_of_length_eq_zero h0⟩
  · refine SrcW.row (Array.getElem?_eq_some_iff.1 hh).1 rfl (fun j hj => ?_)
    exact cellW h j hj
def lenOfW : Value → Nat
  | .slice _ n _ => n
  | _ => 0
theorem isE_nil (z : ByteArray) : (z.toList != []) = !z.toList.isEmpty := by cases z.toList <;> rfl
theorem padW (P : List ByteArray) (k : Nat) : P ++ List.replicate (k + 1) (ByteArray.empty) = (P ++ List.replicate k ByteArray.empty) ++ [ByteArray.empty] := by
  rw [List.append_assoc, ← List.replicate_succ']
set_option maxRecDepth 100000 in
set_option maxHeartbeats 8000000 in
theorem specReceiveChunk (b : Nat) (v : Value) (P : List ByteArray) (s : ByteArray) (w : World) (h : P.length ≤ 4194304) (hs : sumW P P.length ≤ 1048576) (o : OwnW b w v P) (hs2 : s.size ≤ 1048576) :
    Calls Tryz.prog 20 #[v, .string s] w fun e w' => ∃ u, e = .returned (.tuple #[u, .bool (recOk P s)]) ∧ OwnW w.heap.size w' u (recL P s) ∧ Below w.heap.size w w' := by
  obtain ⟨va, vc, rfl⟩ := o.shape
  have jr := specRead s w hs2
  have HS := Lib.hid (srcW_own o)
  clear o hs
  rcases readC_cases s.data.toList with ⟨hr, _⟩ | ⟨i, n, d, hrd, hr⟩
  · have HF := Lib.hid (rec_bad (P := P) hr)
    unfold rdT at jr
    rw [hr] at jr
    have JR := Lib.hid jr
    clear jr hr
    go_enter Tryz.func20, Tryz.ntmps20
    go_wp2_with fail
    refine (JR.out).mono ?_
    rintro e w1 ⟨rfl, hb⟩
    have hbA := (Below.refl w1.heap.size w1).alloc (Nat.le_refl _) (.cells #[] 9)
    have HN := Lib.hid (show OwnW w1.heap.size (w1.alloc (.cells #[] 9)) (.slice (some ⟨w1.heap.size, 0, none⟩) 0 0) [] from World.ownsRow_lit w1 #[] 0 (Nat.le_refl _) (Nat.zero_le _) rfl)
    have HS1 := Lib.hid ((HS.out.below hb (Nat.le_refl _)).below (hbA.mono hb.size) (Nat.le_refl _))
    have hz := hb.size
    have HB := Lib.hid (hb.trans (hbA.mono hb.size))
    clear hb hbA JR HS
    go_wp2_with (at_builtin; refine wpList_appW rfl _ _ rfl w1.heap.size _ [] rfl HN.out w.heap.size _ P rfl HS1.out (by simp; omega) (by simp) ?_; intro v' w2 ho2 hb2 hg2; (have ho2' : OwnW w1.heap.size w2 v' P := by simpa using ho2); obtain ⟨xa, xc, rfl⟩ := ho2'.shape; (have HO := Lib.hid (ho2'.mono hz)); (replace HB := Lib.hid (HB.out.trans (hb2.mono hz))); clear ho2 ho2' hb2 hg2 HN HS1)
    refine bodyPost_ret (v := .tuple #[.slice xa P.length xc, .bool false]) (by simp [results, Tryz.results20, go_sem]) rfl ?_
    exact ⟨_, by rw [HF.out.1], by rw [HF.out.2]; exact HO.out, HB.out⟩
  · have hk := hrd.1
    unfold okK at hk
    obtain ⟨hk1, hk2, hk3, _⟩ := hk
    obtain ⟨i, rfl⟩ := Int.eq_ofNat_of_zero_le hk1
    obtain ⟨n, rfl⟩ := Int.eq_ofNat_of_zero_le (show 0 ≤ n by omega)
    have hin : i < n := by omega
    have hn40 : n ≤ 40 := by omega
    unfold rdT at jr
    rw [hr] at jr
    simp only at jr
    have JR := Lib.hid jr
    have HRD := Lib.hid hr
    clear jr hr hk1 hk2 hk3 hrd
    by_cases hbad : 0 < P.length ∧ (P.length : Int) ≠ (n : Int)
    · have HF := Lib.hid (rec_other (P := P) HRD.out hbad.1 hbad.2)
      have g1 : decide ((P.length : Int) > 0) = true := decide_eq_true (by omega)
      have g2 : ((P.length : Int) != (n : Int)) = true := by rw [bne_iff_ne]; exact hbad.2
      have g3 : decide (0 < P.length) = true := decide_eq_true hbad.1
      clear hbad
      go_enter Tryz.func20, Tryz.ntmps20
      go_wp2_with fail
      refine (JR.out).mono ?_
      rintro e w1 ⟨rfl, hb⟩
      have hbA := (Below.refl w1.heap.size w1).alloc (Nat.le_refl _) (.cells #[] 9)
      have HN := Lib.hid (show OwnW w1.heap.size (w1.alloc (.cells #[] 9)) (.slice (some ⟨w1.heap.size, 0, none⟩) 0 0) [] from World.ownsRow_lit w1 #[] 0 (Nat.le_refl _) (Nat.zero_le _) rfl)
      have HS1 := Lib.hid ((HS.out.below hb (Nat.le_refl _)).below (hbA.mono hb.size) (Nat.le_refl _))
      have hz := hb.size
      have HB := Lib.hid (hb.trans (hbA.mono hb.size))
      clear hb hbA JR HS
      go_wp2_with (at_builtin; refine wpList_appW rfl _ _ rfl w1.heap.size _ [] rfl HN.out w.heap.size _ P rfl HS1.out (by simp; omega) (by simp) ?_; intro v' w2 ho2 hb2 hg2; (have ho2' : OwnW w1.heap.size w2 v' P := by simpa using ho2); obtain ⟨xa, xc, rfl⟩ := ho2'.shape; (have HO := Lib.hid (ho2'.mono hz)); (replace HB := Lib.hid (HB.out.trans (hb2.mono hz))); clear ho2 ho2' hb2 hg2 HN HS1)
      refine bodyPost_ret (v := .tuple #[.slice xa P.length xc, .bool false]) (by simp [results, Tryz.results20, go_sem]) rfl ?_
      exact ⟨_, by rw [HF.out.1], by rw [HF.out.2]; exact HO.out, HB.out⟩
    · have hP : P.length = 0 ∨ P.length = n := by omega
      have g0 : (decide ((P.length : Int) > 0) = false ∧ decide (0 < P.length) = false) ∨ (decide ((P.length : Int) > 0) = true ∧ decide (0 < P.length) = true ∧ ((P.length : Int) != (n : Int)) = false) := by
        rcases hP with h0 | h1
        · exact .inl ⟨decide_eq_false (by omega), decide_eq_false (by omega)⟩
        · by_cases h0 : P.length = 0
          · exact .inl ⟨decide_eq_false (by omega), decide_eq_false (by omega)⟩
          · exact .inr ⟨decide_eq_true (by omega), decide_eq_true (by omega), by rw [h1]; simp⟩
      have HP := Lib.hid hP
      clear hP hbad
      go_enter Tryz.func20, Tryz.ntmps20
      rcases g0 with ⟨g1, g2⟩ | ⟨g1, g2, g3⟩
      · skip
        go_wp2_with fail
        refine (JR.out).mono ?_
        rintro e w1 ⟨rfl, hb⟩
        have hbA := (Below.refl w1.heap.size w1).alloc (Nat.le_refl _) (.cells #[] 9)
        have HN := Lib.hid (show OwnW w1.heap.size (w1.alloc (.cells #[] 9)) (.slice (some ⟨w1.heap.size, 0, none⟩) 0 0) [] from World.ownsRow_lit w1 #[] 0 (Nat.le_refl _) (Nat.zero_le _) rfl)
        have HS1 := Lib.hid ((HS.out.below hb (Nat.le_refl _)).below (hbA.mono hb.size) (Nat.le_refl _))
        have hz := hb.size
        have HB := Lib.hid (hb.trans (hbA.mono hb.size))
        clear hb hbA JR HS
        go_wp2_with (at_builtin; refine wpList_appW rfl _ _ rfl w1.heap.size _ [] rfl HN.out w.heap.size _ P rfl HS1.out (by simp; omega) (by simp) ?_; intro v' w2 ho2 hb2 hg2; (have ho2' : OwnW w1.heap.size w2 v' P := by simpa using ho2); obtain ⟨xa, xc, rfl⟩ := ho2'.shape; (have HO := Lib.hid (ho2'.mono hz)); (replace HB := Lib.hid (HB.out.trans (hb2.mono hz))); clear ho2 ho2' hb2 hg2 HN HS1)
        go_loopw [10] (fun u wr => ∃ k, P.length + k ≤ n ∧ Hid (OwnW w.heap.size wr u (P ++ List.replicate k ByteArray.empty)) ∧ Hid (Below w.heap.size w wr)) (fun u _ => n - lenOfW u)
        case atStart => exact ⟨0, by rcases HP.out with h | h <;> omega, Lib.hid (by simpa using HO.out), HB⟩
        case round =>
          clear HO HB
          obtain ⟨k, hk, HO, HB⟩ := hrel
          have hlen : (P ++ List.replicate k ByteArray.empty).length = P.length + k := by simp
          have hpad := padW P k
          obtain ⟨X, hX⟩ : ∃ X, X = P ++ List.replicate k ByteArray.empty := ⟨_, rfl⟩
          rw [← hX] at HO hlen hpad
          have HX := Lib.hid hX
          obtain ⟨ya, yc, rfl⟩ := HO.out.shape
          by_cases hlt : P.length + k < n
          · have hlt' : X.length < n := by omega
            have HPD := Lib.hid hpad
            have hz0 := HB.out.size
            have hlX : X.length ≤ 40 := by omega
            clear hX hpad hlen
            go_wp2_with (at_builtin; refine wpList_push1 rfl _ _ 40 rfl w.heap.size 9 (.string .empty) 16 Tryz.underlying40 infoW rfl _ _ _ rfl HO.out.row _ 1 rfl (by rfl) (by omega) (by omega) hz0 ?_; intro v' w9 hown' hb9 hg9)
            go_roundw
            case rel => exact ⟨k + 1, by omega, Lib.hid (by rw [HPD.out]; exact OwnW.snoc hown'), Lib.hid (HB.out.trans hb9)⟩
            case measure =>
              obtain ⟨va', vc', hv'⟩ := (OwnW.snoc hown').shape
              rw [hv']
              simp [lenOfW]; omega
          · have hXn : X.length = n := by omega
            have hge : ¬ X.length < n := by omega
            have hkk : k = n - P.length := by omega
            obtain ⟨g, c, hv, hgc, hgm, hgw, hgl⟩ := HO.out.there (by omega)
            injection hv with hv1 hv2 hv3
            subst hv1 hv3
            have hc := cellW HO.out i (by omega)
            have hiX : i < X.length := by omega
            have hiX' : (i : Int) < (X.length : Int) := by omega
            have hfz := HO.out.row.frozenAt i
            have hget : X.getD i .empty = P.getD i .empty := by
              rw [HX.out]
              rcases HP.out with h0 | h1
              · have := List.eq_nil_of_length_eq_zero h0
                subst this
                simp [List.getD]
                by_cases h : i < k <;> simp [h]
              · have : k = 0 := by omega
                subst this
                simp
            rw [hget] at hc
            cases ht : (P.getD i .empty).toList.isEmpty with
            | false =>
              have h0 : 0 < P.length := by
                rcases Nat.eq_zero_or_pos P.length with h | h
                · have := List.eq_nil_of_length_eq_zero h
                  subst this
                  simp at ht
                · exact h
              have HF := Lib.hid (rec_taken (P := P) HRD.out h0 (by simpa using ht))
              have hX0 : k = 0 := by rcases HP.out with h | h <;> omega
              subst hX0
              have HOX := Lib.hid (show OwnW w.heap.size wr (.slice (some ⟨g, 0, none⟩) X.length yc) P by have h := HO.out; rw [HX.out] at h ⊢; simpa using h)
              have gq : ((P.getD i .empty).toList != []) = true := by rw [isE_nil, ht]; rfl
              generalize P.getD i .empty = z at *
              clear hX hpad hlen hget hkk hXn
              go_wp2_with fail
              refine bodyPost_ret (v := .tuple #[.slice (some ⟨g, 0, none⟩) X.length yc, .bool false]) (by simp [results, Tryz.results20, go_sem]) rfl ?_
              exact ⟨_, by rw [HF.out.1], by rw [HF.out.2]; exact HOX.out, HB.out⟩
            | true =>
              have HF := Lib.hid (rec_yes (P := P) HRD.out (by rcases HP.out with h | h; exact .inl h; exact .inr ⟨by omega, by simpa using ht⟩))
              have HST := Lib.hid (HO.out.storedAt i s)
              have HBT := Lib.hid (HB.out.setCell (p := ⟨g, i, none⟩) hgw (.string s))
              have gq : ((P.getD i .empty).toList != []) = false := by rw [isE_nil, ht]; rfl
              have HKK := Lib.hid hkk
              generalize P.getD i .empty = z at *
              clear hX hpad hlen hget hkk hXn
              go_wp2_with fail
              refine bodyPost_ret (v := .tuple #[.slice (some ⟨g, 0, none⟩) X.length yc, .bool true]) (by simp [results, Tryz.results20, go_sem]) rfl ?_
              exact ⟨_, by rw [HF.out.1], by rw [HF.out.2]; simp only [Int.toNat_natCast]; rw [← HKK.out, ← HX.out]; exact HST.out, HBT.out⟩
      · skip
        go_wp2_with fail
        refine (JR.out).mono ?_
        rintro e w1 ⟨rfl, hb⟩
        have hbA := (Below.refl w1.heap.size w1).alloc (Nat.le_refl _) (.cells #[] 9)
        have HN := Lib.hid (show OwnW w1.heap.size (w1.alloc (.cells #[] 9)) (.slice (some ⟨w1.heap.size, 0, none⟩) 0 0) [] from World.ownsRow_lit w1 #[] 0 (Nat.le_refl _) (Nat.zero_le _) rfl)
        have HS1 := Lib.hid ((HS.out.below hb (Nat.le_refl _)).below (hbA.mono hb.size) (Nat.le_refl _))
        have hz := hb.size
        have HB := Lib.hid (hb.trans (hbA.mono hb.size))
        clear hb hbA JR HS
        go_wp2_with (at_builtin; refine wpList_appW rfl _ _ rfl w1.heap.size _ [] rfl HN.out w.heap.size _ P rfl HS1.out (by simp; omega) (by simp) ?_; intro v' w2 ho2 hb2 hg2; (have ho2' : OwnW w1.heap.size w2 v' P := by simpa using ho2); obtain ⟨xa, xc, rfl⟩ := ho2'.shape; (have HO := Lib.hid (ho2'.mono hz)); (replace HB := Lib.hid (HB.out.trans (hb2.mono hz))); clear ho2 ho2' hb2 hg2 HN HS1)
        go_loopw [10] (fun u wr => ∃ k, P.length + k ≤ n ∧ Hid (OwnW w.heap.size wr u (P ++ List.replicate k ByteArray.empty)) ∧ Hid (Below w.heap.size w wr)) (fun u _ => n - lenOfW u)
        case atStart => exact ⟨0, by rcases HP.out with h | h <;> omega, Lib.hid (by simpa using HO.out), HB⟩
        case round =>
          clear HO HB
          obtain ⟨k, hk, HO, HB⟩ := hrel
          have hlen : (P ++ List.replicate k ByteArray.empty).length = P.length + k := by simp
          have hpad := padW P k
          obtain ⟨X, hX⟩ : ∃ X, X = P ++ List.replicate k ByteArray.empty := ⟨_, rfl⟩
          rw [← hX] at HO hlen hpad
          have HX := Lib.hid hX
          obtain ⟨ya, yc, rfl⟩ := HO.out.shape
          by_cases hlt : P.length + k < n
          · have hlt' : X.length < n := by omega
            have HPD := Lib.hid hpad
            have hz0 := HB.out.size
            have hlX : X.length ≤ 40 := by omega
            clear hX hpad hlen
            go_wp2_with (at_builtin; refine wpList_push1 rfl _ _ 40 rfl w.heap.size 9 (.string .empty) 16 Tryz.underlying40 infoW rfl _ _ _ rfl HO.out.row _ 1 rfl (by rfl) (by omega) (by omega) hz0 ?_; intro v' w9 hown' hb9 hg9)
            go_roundw
            case rel => exact ⟨k + 1, by omega, Lib.hid (by rw [HPD.out]; exact OwnW.snoc hown'), Lib.hid (HB.out.trans hb9)⟩
            case measure =>
              obtain ⟨va', vc', hv'⟩ := (OwnW.snoc hown').shape
              rw [hv']
              simp [lenOfW]; omega
          · have hXn : X.length = n := by omega
            have hge : ¬ X.length < n := by omega
            have hkk : k = n - P.length := by omega
            obtain ⟨g, c, hv, hgc, hgm, hgw, hgl⟩ := HO.out.there (by omega)
            injection hv with hv1 hv2 hv3
            subst hv1 hv3
            have hc := cellW HO.out i (by omega)
            have hiX : i < X.length := by omega
            have hiX' : (i : Int) < (X.length : Int) := by omega
            have hfz := HO.out.row.frozenAt i
            have hget : X.getD i .empty = P.getD i .empty := by
              rw [HX.out]
              rcases HP.out with h0 | h1
              · have := List.eq_nil_of_length_eq_zero h0
                subst this
                simp [List.getD]
                by_cases h : i < k <;> simp [h]
              · have : k = 0 := by omega
                subst this
                simp
            rw [hget] at hc
            cases ht : (P.getD i .empty).toList.isEmpty with
            | false =>
              have h0 : 0 < P.length := by
                rcases Nat.eq_zero_or_pos P.length with h | h
                · have := List.eq_nil_of_length_eq_zero h
                  subst this
                  simp at ht
                · exact h
              have HF := Lib.hid (rec_taken (P := P) HRD.out h0 (by simpa using ht))
              have hX0 : k = 0 := by rcases HP.out with h | h <;> omega
              subst hX0
              have HOX := Lib.hid (show OwnW w.heap.size wr (.slice (some ⟨g, 0, none⟩) X.length yc) P by have h := HO.out; rw [HX.out] at h ⊢; simpa using h)
              have gq : ((P.getD i .empty).toList != []) = true := by rw [isE_nil, ht]; rfl
              generalize P.getD i .empty = z at *
              clear hX hpad hlen hget hkk hXn
              go_wp2_with fail
              refine bodyPost_ret (v := .tuple #[.slice (some ⟨g, 0, none⟩) X.length yc, .bool false]) (by simp [results, Tryz.results20, go_sem]) rfl ?_
              exact ⟨_, by rw [HF.out.1], by rw [HF.out.2]; exact HOX.out, HB.out⟩
            | true =>
              have HF := Lib.hid (rec_yes (P := P) HRD.out (by rcases HP.out with h | h; exact .inl h; exact .inr ⟨by omega, by simpa using ht⟩))
              have HST := Lib.hid (HO.out.storedAt i s)
              have HBT := Lib.hid (HB.out.setCell (p := ⟨g, i, none⟩) hgw (.string s))
              have gq : ((P.getD i .empty).toList != []) = false := by rw [isE_nil, ht]; rfl
              have HKK := Lib.hid hkk
              generalize P.getD i .empty = z at *
              clear hX hpad hlen hget hkk hXn
              go_wp2_with fail
              refine bodyPost_ret (v := .tuple #[.slice (some ⟨g, 0, none⟩) X.length yc, .bool true]) (by simp [results, Tryz.results20, go_sem]) rfl ?_
              exact ⟨_, by rw [HF.out.1], by rw [HF.out.2]; simp only [Int.toNat_natCast]; rw [← HKK.out, ← HX.out]; exact HST.out, HBT.out⟩
end Go.Proofs.YtpdpejlcilnafaaGreatDoor.kit
namespace Go.Proofs.YtpdpejlcilnafaaGreatDoor.kit
set_option linter.unusedVariables false
set_option linter.unusedSimpArgs false

def digV (b : UInt8) : Int := (b.toNat : Int) - 48
def digB (v : Int) : UInt8 := UInt8.ofNat (48 + v.toNat)
theorem ten {v : Int} (h : 0 ≤ v ∧ v ≤ 9) : v = 0 ∨ v = 1 ∨ v = 2 ∨ v = 3 ∨ v = 4 ∨ v = 5 ∨ v = 6 ∨ v = 7 ∨ v = 8 ∨ v = 9 := by omega
theorem itoa_dig {v : Int} (h : 0 ≤ v ∧ v ≤ 9) : Lib.itoa v = [digB v] := by
  unfold Lib.itoa; rw [if_neg (by omega)]; exact decDigits_small (by omega)
theorem digV_digB {v : Int} (h : 0 ≤ v ∧ v ≤ 9) : digV (digB v) = v := by
  rcases ten h with rfl | rfl | rfl | rfl | rfl | rfl | rfl | rfl | rfl | rfl <;> rfl
theorem isDig_digB {v : Int} (h : 0 ≤ v ∧ v ≤ 9) : isDig (digB v) = true := by
  rcases ten h with rfl | rfl | rfl | rfl | rfl | rfl | rfl | rfl | rfl | rfl <;> rfl
theorem digB_digV {b : UInt8} (h : isDig b = true) : digB (digV b) = b := by
  have := of_decide_eq_true h
  unfold digB digV
  rw [show 48 + ((b.toNat : Int) - 48).toNat = b.toNat by omega]
  simp
theorem isDig_in {b : UInt8} (h : isDig b = true) : 0 ≤ digV b ∧ digV b ≤ 9 := by
  have := of_decide_eq_true h
  unfold digV
  omega
/-- the objects, read loosely -/
def looseO (p : List UInt8) : List Int := (p.take 9).map digV
theorem three {α : Type} {L : List α} (h : L.length = 3) : ∃ a b c, L = [a, b, c] := by
  match L, h with
  | [a, b, c], _ => exact ⟨a, b, c, rfl⟩
theorem objs_fmt {L1 : List Int} {L2 : List Sess} (h : MOk L1 L2) : (fmtOs L1).length = 3 ∧ looseO (fmtOs L1) = L1 ∧ (∀ b ∈ fmtOs L1, isDig b = true) ∧ (fmtOs L1).map digV = L1 := by
  obtain ⟨a, b, c, rfl⟩ := three h.1
  have ha := okV_in' (h.2.1 0 (by simp))
  have hb := okV_in' (h.2.1 1 (by simp))
  have hc := okV_in' (h.2.1 2 (by simp))
  simp only [List.getD_cons_zero, List.getD_cons_succ] at ha hb hc
  have e : fmtOs [a, b, c] = [digB a, digB b, digB c] := by simp [fmtOs, itoa_dig ha, itoa_dig hb, itoa_dig hc]
  rw [e]
  refine ⟨rfl, ?_, ?_, ?_⟩
  · simp [looseO, digV_digB ha, digV_digB hb, digV_digB hc]
  · intro x hx
    simp only [List.mem_cons, List.not_mem_nil, or_false] at hx
    rcases hx with rfl | rfl | rfl
    · exact isDig_digB ha
    · exact isDig_digB hb
    · exact isDig_digB hc
  · simp [digV_digB ha, digV_digB hb, digV_digB hc]
theorem objs_sound {p : List UInt8} (h3 : p.length = 3) (hd : ∀ b ∈ p, isDig b = true) : fmtOs (p.map digV) = p := by
  obtain ⟨a, b, c, rfl⟩ := three h3
  have ha := hd a (by simp)
  have hb := hd b (by simp)
  have hc := hd c (by simp)
  simp [fmtOs, itoa_dig (isDig_in ha), itoa_dig (isDig_in hb), itoa_dig (isDig_in hc), digB_digV ha, digB_digV hb, digB_digV hc]
theorem isDig_no {p : List UInt8} (hd : ∀ b ∈ p, isDig b = true) : (32 : UInt8) ∉ p := fun h => by have := hd 32 h; revert this; decide
/-- what the program's reader of objects may answer -/
def ObjI (p : List UInt8) (O : List Int) : Prop := (p.length = 3 ∧ (∀ b ∈ p, isDig b = true) ∧ O = p.map digV) ∨ (¬ (p.length = 3 ∧ ∀ b ∈ p, isDig b = true) ∧ ∀ L2, ¬ MOk O L2)
/-- a session, read loosely -/
def looseX (p : List UInt8) : Sess :=
  if p.length < 5 ∨ p.getD 1 0 ≠ 46 then (-1, 0, false, 0) else (digV (p.getD 0 0), numL ((p.drop 2).take (p.length - 4)), p.getD (p.length - 2) 0 == 43, digV (p.getD (p.length - 1) 0))
theorem sgn_back (d : Bool) : (sgn d == 43) = d := by cases d <;> rfl
theorem itoa_pos {n : Int} (h0 : 0 ≤ n) (h1 : n < 1000000000) : 0 < (Lib.itoa n).length := by
  rcases Nat.eq_zero_or_pos (Lib.itoa n).length with h | h
  · have e := List.eq_nil_of_length_eq_zero h
    have := (par_itoa h0 h1).1
    rw [e, par_nil] at this
    cases this
  · exact h
theorem fmtX_form {x : Sess} (h : sessOk x = true) : fmtX x = digB x.1 :: 46 :: (Lib.itoa x.2.1 ++ [sgn x.2.2.1, digB x.2.2.2]) := by
  obtain ⟨c, s, d, v⟩ := x
  obtain ⟨h1, h2, h3⟩ := sessOk_in h
  simp only [fmtX, itoa_dig (show 0 ≤ c ∧ c ≤ 9 by omega), itoa_dig h3]
  simp
theorem looseX_fmt {x : Sess} (h : sessOk x = true) : looseX (fmtX x) = x := by
  have hf := fmtX_form h
  obtain ⟨c, s, d, v⟩ := x
  obtain ⟨h1, h2, h3⟩ := sessOk_in h
  simp only at hf
  have hp := itoa_pos (n := s) (by omega) (by omega)
  have hn := num_itoa (n := s) (by omega) (by omega)
  rw [hf]
  generalize Lib.itoa s = q at *
  have hl : (digB c :: 46 :: (q ++ [sgn d, digB v])).length = q.length + 4 := by simp
  unfold looseX
  rw [hl, if_neg (by simp; omega)]
  have e1 : ((digB c :: 46 :: (q ++ [sgn d, digB v])).drop 2).take (q.length + 4 - 4) = q := by simp
  have e2 : (digB c :: 46 :: (q ++ [sgn d, digB v])).getD (q.length + 4 - 2) 0 = sgn d := by
    rw [show q.length + 4 - 2 = q.length + 1 + 1 by omega, List.getD_cons_succ, List.getD_cons_succ]
    simp [List.getD]
  have e3 : (digB c :: 46 :: (q ++ [sgn d, digB v])).getD (q.length + 4 - 1) 0 = digB v := by
    rw [show q.length + 4 - 1 = (q.length + 1) + 1 + 1 by omega, List.getD_cons_succ, List.getD_cons_succ]
    simp [List.getD]
  rw [e1, e2, e3, hn, sgn_back, List.getD_cons_zero, digV_digB (by omega), digV_digB h3]
/-- a session, read strictly -/
def restX (p : List UInt8) : List UInt8 := (Lib.cut p [46]).2.1
def signX (p : List UInt8) : Int := Lib.indexAny (restX p) [43, 45]
def pxOk (p : List UInt8) : Bool := decide (0 ≤ signX p) && (parOk (Lib.cut p [46]).1 && (parOk ((restX p).take (signX p).toNat) && parOk ((restX p).drop ((signX p).toNat + 1))))
def px (p : List UInt8) : Sess := (parN (Lib.cut p [46]).1, parN ((restX p).take (signX p).toNat), (restX p).getD (signX p).toNat 0 == 43, parN ((restX p).drop ((signX p).toNat + 1)))
theorem any_app : ∀ {q r : List UInt8} {b : UInt8}, (43 : UInt8) ∉ q → (45 : UInt8) ∉ q → (b = 43 ∨ b = 45) → Lib.indexAny (q ++ b :: r) [43, 45] = (q.length : Int)
  | [], r, b, _, _, hb => by
    rcases hb with rfl | rfl <;> rfl
  | a :: q, r, b, h1, h2, hb => by
    have ih := any_app (r := r) (fun h => h1 (List.mem_cons_of_mem _ h)) (fun h => h2 (List.mem_cons_of_mem _ h)) hb
    have n1 : a ≠ 43 := fun e => h1 (by simp [e])
    have n2 : a ≠ 45 := fun e => h2 (by simp [e])
    have hc : ([43, 45] : List UInt8).contains a = false := by simp [n1, n2]
    rw [List.cons_append, Lib.indexAny, hc, ih]
    have : ((q.length : Int) == -1) = false := by rw [beq_eq_false_iff_ne]; omega
    simp [this]
theorem any_at : ∀ {l : List UInt8}, 0 ≤ Lib.indexAny l [43, 45] → ∃ k : Nat, Lib.indexAny l [43, 45] = (k : Int) ∧ k < l.length ∧ (l.getD k 0 = 43 ∨ l.getD k 0 = 45)
  | [], h => by simp [Lib.indexAny] at h
  | a :: l, h => by
    rw [Lib.indexAny] at h ⊢
    by_cases hc : ([43, 45] : List UInt8).contains a = true
    · rw [if_pos hc]
      refine ⟨0, rfl, by simp, ?_⟩
      simpa using hc
    · rw [if_neg hc] at h ⊢
      by_cases hm : (Lib.indexAny l [43, 45] == -1) = true
      · rw [if_pos hm] at h; omega
      · rw [if_neg hm] at h ⊢
        have hg := Lib.indexAny_ge [43, 45] l
        have hne : Lib.indexAny l [43, 45] ≠ -1 := by simpa using hm
        obtain ⟨k, e, hk, hb⟩ := any_at (l := l) (by omega)
        exact ⟨k + 1, by rw [e]; omega, by simp; omega, by simpa using hb⟩
theorem px_fmt {x : Sess} (h : sessOk x = true) : pxOk (fmtX x) = true ∧ px (fmtX x) = x := by
  obtain ⟨c, s, d, v⟩ := x
  obtain ⟨h1, h2, h3⟩ := sessOk_in h
  have e : Lib.cut (fmtX (c, s, d, v)) [46] = (Lib.itoa c, Lib.itoa s ++ sgn d :: Lib.itoa v, true) := by
    unfold fmtX
    simp only [List.singleton_append]
    rw [cut_app (itoa_no (by omega) (by decide))]
  have hk : Lib.indexAny (Lib.itoa s ++ sgn d :: Lib.itoa v) [43, 45] = ((Lib.itoa s).length : Int) := any_app (itoa_no (by omega) (by decide)) (itoa_no (by omega) (by decide)) (by cases d <;> simp [sgn])
  have pc := par_itoa (n := c) (by omega) (by omega)
  have ps := par_itoa (n := s) (by omega) (by omega)
  have pv := par_itoa (n := v) (by omega) (by omega)
  unfold pxOk px signX restX
  rw [e]
  simp only
  rw [hk, Int.toNat_natCast]
  have t1 : (Lib.itoa s ++ sgn d :: Lib.itoa v).take (Lib.itoa s).length = Lib.itoa s := by simp
  have t2 : (Lib.itoa s ++ sgn d :: Lib.itoa v).drop ((Lib.itoa s).length + 1) = Lib.itoa v := by
    rw [← List.drop_drop]
    simp
  have t3 : (Lib.itoa s ++ sgn d :: Lib.itoa v).getD (Lib.itoa s).length 0 = sgn d := by simp [List.getD]
  rw [t1, t2, t3, pc.1, pc.2, ps.1, ps.2, pv.1, pv.2, sgn_back]
  refine ⟨by simp, rfl⟩
theorem px_sound {p : List UInt8} (h : pxOk p = true) : fmtX (px p) = p := by
  unfold pxOk at h
  simp only [Bool.and_eq_true, decide_eq_true_eq] at h
  obtain ⟨h0, hc, hs, hv⟩ := h
  obtain ⟨k, hk, hkl, hb⟩ := any_at h0
  have hk' : (signX p).toNat = k := by unfold signX; rw [hk]; simp
  rw [hk'] at hs hv
  unfold fmtX px
  simp only
  rw [hk', itoa_par hc, itoa_par hs, itoa_par hv]
  have hsg : sgn ((restX p).getD k 0 == 43) = (restX p).getD k 0 := by
    rcases hb with e | e <;> rw [e] <;> rfl
  rw [hsg]
  have hr : (restX p).take k ++ ([(restX p).getD k 0] ++ (restX p).drop (k + 1)) = restX p := by
    have e2 : (restX p).getD k 0 = (restX p)[k] := by simp [List.getD, hkl]
    rw [e2, List.singleton_append, List.getElem_cons_drop, List.take_append_drop]
  rw [hr]
  rcases first_x 46 p with hn | ⟨a, r, ha, rfl⟩
  · exfalso
    have e : restX p = [] := by unfold restX; rw [cut_none hn]
    rw [e] at hkl
    simp at hkl
  · have e : Lib.cut (a ++ 46 :: r) [46] = (a, r, true) := cut_app ha
    unfold restX
    rw [e]
    simp
theorem fmtX_no {x : Sess} (h : sessOk x = true) : (32 : UInt8) ∉ fmtX x := by
  obtain ⟨c, s, d, v⟩ := x
  obtain ⟨h1, h2, h3⟩ := sessOk_in h
  unfold fmtX
  simp only [List.mem_append, List.mem_cons, List.not_mem_nil, or_false, not_or]
  refine ⟨itoa_no (by omega) (by decide), by decide, itoa_no (by omega) (by decide), ?_, itoa_no (by omega) (by decide)⟩
  cases d <;> decide
/-- the program's words -/
def wsI (l : List UInt8) : List (List UInt8) := Lib.splitK [32] 0 3 l
/-- what the specification reads -/
def looseOs (s : List UInt8) : List Int := looseO ((cuts 32 s).getD 0 [])
def looseXs (s : List UInt8) : List Sess := (((cuts 32 s).drop 1).take 8).map looseX
def okPM (s : List UInt8) : Prop := s ≠ [] ∧ fmtM (looseOs s) (looseXs s) = s
instance (s : List UInt8) : Decidable (okPM s) := inferInstanceAs (Decidable (_ ∧ _))
/-- ParseMachine's results -/
def parMok (s : List UInt8) : Bool := decide (okPM s)
def parMO (s : List UInt8) : List Int := if okPM s then looseOs s else []
def parMX (s : List UInt8) : List Sess := if okPM s then looseXs s else []
theorem looseOs_len (s : List UInt8) : (looseOs s).length ≤ 9 := by unfold looseOs looseO; rw [List.length_map, List.length_take]; omega
theorem looseXs_len (s : List UInt8) : (looseXs s).length ≤ 8 := by unfold looseXs; rw [List.length_map, List.length_take]; omega
theorem parMO_len (s : List UInt8) : (parMO s).length ≤ 4194304 := by
  have := looseOs_len s
  unfold parMO
  split
  · omega
  · simp
theorem parMX_len (s : List UInt8) : (parMX s).length ≤ 4194304 := by
  have := looseXs_len s
  unfold parMX
  split
  · omega
  · simp
theorem joinX_flat (x : UInt8) : ∀ (l : List (List UInt8)) (a : List UInt8), joinX x (a :: l) = a ++ l.flatMap fun p => x :: p
  | [], a => by simp [joinX]
  | b :: l, a => by
    have e : joinX x (a :: b :: l) = a ++ x :: joinX x (b :: l) := by simp [joinX]
    rw [e, joinX_flat x l b]
    simp
theorem fmtM_join {L1 : List Int} {L2 : List Sess} (h : MOk L1 L2) : fmtM L1 L2 = joinX 32 (fmtOs L1 :: L2.map fmtX) := by
  unfold fmtM
  rw [if_pos h, joinX_flat]
  unfold fmtXs
  rw [List.flatMap_map]
  rfl
theorem MOk.client {L1 : List Int} {L2 : List Sess} (h : MOk L1 L2) : ∀ j : Nat, j < L2.length → (j : Int) ≤ (sg L2 j).1 := by
  intro j
  induction j with
  | zero =>
    intro hj
    have := (h.2.2 0 hj).1
    unfold sessOk at this
    simp only [Bool.and_eq_true] at this
    have := okC_in' this.1
    simp; omega
  | succ j ih =>
    intro hj
    have h1 := ih (by omega)
    have h2 := (h.2.2 (j + 1) hj).2 (by omega)
    rw [Nat.add_sub_cancel] at h2
    omega
theorem MOk.len {L1 : List Int} {L2 : List Sess} (h : MOk L1 L2) : L2.length ≤ 3 := by
  rcases Nat.lt_or_ge 3 L2.length with hl | hl
  · have h1 := h.client 3 hl
    have := (h.2.2 3 hl).1
    unfold sessOk at this
    simp only [Bool.and_eq_true] at this
    have := okC_in' this.1
    omega
  · exact hl
theorem MOk.mem {L1 : List Int} {L2 : List Sess} (h : MOk L1 L2) {x : Sess} (hx : x ∈ L2) : sessOk x = true := by
  obtain ⟨j, hj, rfl⟩ := List.mem_iff_getElem.1 hx
  have := (h.2.2 j hj).1
  rwa [sg_eq hj] at this
theorem machine_yes {s : List UInt8} {O : List Int} (hO : ObjI ((wsI s).getD 0 []) O) (h1 : ∀ p ∈ (wsI s).drop 1, pxOk p = true) (h2 : MOk O (((wsI s).drop 1).map px)) :
    parMok s = true ∧ parMO s = O ∧ parMX s = ((wsI s).drop 1).map px := by
  have hj := join_split 32 3 s
  have hp := split_pos 32 3 s
  have hw : wsI s = Lib.splitK [32] 0 3 s := rfl
  rw [← hw] at hj hp
  rcases hO with ⟨h3, hd, hE⟩ | ⟨_, hno⟩
  case inr => exact absurd h2 (hno _)
  have hs0 : s ≠ [] := fun e => by
    have e2 : wsI s = [[]] := by rw [hw, e]; exact split_none (by simp) 3
    rw [e2] at h3
    simp at h3
  clear hw
  match hps : wsI s, hp with
  | p0 :: rest, _ =>
    rw [hps] at h1 h2 hj h3 hd hE
    simp only [List.drop_succ_cons, List.drop_zero, List.getD_cons_zero] at h1 h2 h3 hd hE ⊢
    have hfo : fmtOs O = p0 := by rw [hE]; exact objs_sound h3 hd
    have hfx : (rest.map px).map fmtX = rest := by
      rw [List.map_map]
      conv => rhs; rw [← List.map_id rest]
      exact List.map_congr_left (fun p hpm => px_sound (h1 p hpm))
    have hf : fmtM O (rest.map px) = s := by rw [fmtM_join h2, hfo, hfx, hj]
    have hno : ∀ p ∈ p0 :: rest, (32 : UInt8) ∉ p := fun p hpm => by
      rcases List.mem_cons.1 hpm with rfl | hpm
      · exact isDig_no hd
      · have := fmtX_no (h2.mem (List.mem_map_of_mem (f := px) hpm))
        rwa [px_sound (h1 p hpm)] at this
    have hc : cuts 32 s = p0 :: rest := by rw [← hj]; exact cuts_join (by simp) hno
    have hl := h2.len
    rw [List.length_map] at hl
    have ho : looseOs s = O := by
      unfold looseOs
      rw [hc, List.getD_cons_zero, ← hfo]
      exact (objs_fmt h2).2.1
    have hx : looseXs s = rest.map px := by
      unfold looseXs
      rw [hc, List.drop_succ_cons, List.drop_zero, List.take_of_length_le (by omega)]
      refine List.map_congr_left (fun p hpm => ?_)
      have := looseX_fmt (h2.mem (List.mem_map_of_mem (f := px) hpm))
      rwa [px_sound (h1 p hpm)] at this
    have hok : okPM s := ⟨hs0, by rw [ho, hx]; exact hf⟩
    refine ⟨decide_eq_true hok, ?_, ?_⟩
    · unfold parMO; rw [if_pos hok, ho]
    · unfold parMX; rw [if_pos hok, hx]
theorem machine_no {s : List UInt8} {O : List Int} (hO : ObjI ((wsI s).getD 0 []) O) (h : ¬ ((∀ p ∈ (wsI s).drop 1, pxOk p = true) ∧ MOk O (((wsI s).drop 1).map px))) :
    parMok s = false ∧ parMO s = [] ∧ parMX s = [] := by
  have hno : ¬ okPM s := fun hok => by
    obtain ⟨hs0, hf⟩ := hok
    have hM : MOk (looseOs s) (looseXs s) := by
      by_cases hM : MOk (looseOs s) (looseXs s)
      · exact hM
      · exfalso
        apply hs0
        rw [← hf]
        unfold fmtM
        rw [if_neg hM]
    rw [fmtM_join hM] at hf
    have hob := objs_fmt hM
    have hl := hM.len
    have hw : wsI s = fmtOs (looseOs s) :: (looseXs s).map fmtX := by
      unfold wsI
      conv => lhs; rw [← hf]
      refine split_join (by simp) (fun p hp => ?_) (by simp; omega)
      rcases List.mem_cons.1 hp with rfl | hp
      · exact isDig_no hob.2.2.1
      · obtain ⟨x, hx, rfl⟩ := List.mem_map.1 hp
        exact fmtX_no (hM.mem hx)
    rw [hw] at h hO
    simp only [List.drop_succ_cons, List.drop_zero, List.getD_cons_zero] at h hO
    have hpx : ((looseXs s).map fmtX).map px = looseXs s := by
      rw [List.map_map]
      conv => rhs; rw [← List.map_id (looseXs s)]
      exact List.map_congr_left (fun x hx => (px_fmt (hM.mem hx)).2)
    have hE : O = looseOs s := by
      rcases hO with ⟨_, _, e⟩ | ⟨hn, _⟩
      · rw [e, hob.2.2.2]
      · exact absurd ⟨hob.1, hob.2.2.1⟩ hn
    refine h ⟨fun p hp => ?_, ?_⟩
    · obtain ⟨x, hx, rfl⟩ := List.mem_map.1 hp
      exact (px_fmt (hM.mem hx)).1
    · rw [hpx, hE]; exact hM
  refine ⟨decide_eq_false hno, ?_, ?_⟩
  · unfold parMO; rw [if_neg hno]
  · unfold parMX; rw [if_neg hno]
/-- a machine is read back -/
theorem mach_back {L1 : List Int} {L2 : List Sess} (h : MOk L1 L2) : parMok (fmtM L1 L2) = true ∧ parMO (fmtM L1 L2) = L1 ∧ parMX (fmtM L1 L2) = L2 := by
  have hob := objs_fmt h
  have hl := h.len
  have hno : ∀ p ∈ fmtOs L1 :: L2.map fmtX, (32 : UInt8) ∉ p := fun p hp => by
    rcases List.mem_cons.1 hp with rfl | hp
    · exact isDig_no hob.2.2.1
    · obtain ⟨x, hx, rfl⟩ := List.mem_map.1 hp
      exact fmtX_no (h.mem hx)
  have hc : cuts 32 (fmtM L1 L2) = fmtOs L1 :: L2.map fmtX := by rw [fmtM_join h]; exact cuts_join (by simp) hno
  have ho : looseOs (fmtM L1 L2) = L1 := by unfold looseOs; rw [hc, List.getD_cons_zero]; exact hob.2.1
  have hx : looseXs (fmtM L1 L2) = L2 := by
    unfold looseXs
    rw [hc, List.drop_succ_cons, List.drop_zero, List.take_of_length_le (by rw [List.length_map]; omega), List.map_map]
    conv => rhs; rw [← List.map_id L2]
    exact List.map_congr_left (fun x hx => looseX_fmt (h.mem hx))
  have hne : fmtM L1 L2 ≠ [] := fun e => by
    have h3 := hob.1
    unfold fmtM at e
    rw [if_pos h] at e
    have := (List.append_eq_nil_iff.1 e).1
    rw [this] at h3
    simp at h3
  have hok : okPM (fmtM L1 L2) := ⟨hne, by rw [ho, hx]⟩
  exact ⟨decide_eq_true hok, by unfold parMO; rw [if_pos hok, ho], by unfold parMX; rw [if_pos hok, hx]⟩
theorem mach_none : parMok [] = false := decide_eq_false (fun h => h.1 rfl)
/-- what was read writes the text again -/
theorem mach_write {p : List UInt8} (h : parMok p = true) : fmtM (parMO p) (parMX p) = p := by
  have hok : okPM p := of_decide_eq_true h
  unfold parMO parMX
  rw [if_pos hok, if_pos hok]
  exact hok.2
theorem fmtM_no {L1 : List Int} {L2 : List Sess} (h : MOk L1 L2) : (44 : UInt8) ∉ fmtM L1 L2 := by
  unfold fmtM
  rw [if_pos h]
  simp only [List.mem_append, not_or]
  refine ⟨fun hm => ?_, fun hm => ?_⟩
  · have := (objs_fmt h).2.2.1 44 hm
    revert this; decide
  · unfold fmtXs at hm
    obtain ⟨x, hx, hm⟩ := List.mem_flatMap.1 hm
    obtain ⟨c, s, d, v⟩ := x
    obtain ⟨h1, h2, h3⟩ := sessOk_in (h.mem hx)
    unfold fmtX at hm
    simp only [List.mem_append, List.mem_cons, List.not_mem_nil, or_false] at hm
    rcases hm with hm | hm | hm | hm | hm | hm
    · revert hm; decide
    · exact itoa_no (by omega) (by decide) hm
    · revert hm; decide
    · exact itoa_no (by omega) (by decide) hm
    · revert hm; cases d <;> decide
    · exact itoa_no (by omega) (by decide) hm
end Go.Proofs.YtpdpejlcilnafaaGreatDoor.kit
namespace Go.Proofs.YtpdpejlcilnafaaGreatDoor.kit
open Go.ChangeShapes Go.WideShapes Go.ChangeAt Go.RowKit
set_option linter.unusedVariables false

theorem fmtM_short (L1 : List Int) (L2 : List Sess) : (fmtM L1 L2).length ≤ 1000 := by
  unfold fmtM
  split
  · rename_i h
    have a := fmtOs_len h L1.length
    have b := fmtXs_len h L2.length
    have c := h.len
    rw [List.take_length] at a b
    rw [List.length_append]
    omega
  · simp
end Go.Proofs.YtpdpejlcilnafaaGreatDoor.kit
