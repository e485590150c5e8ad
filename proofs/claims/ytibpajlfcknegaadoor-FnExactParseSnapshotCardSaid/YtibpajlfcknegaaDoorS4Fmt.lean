/-
  Chapter 4: what spec's and impl's FormatMachine return.
-/
import Derived.Test.YtibpajlfcknegaaDoorS4Read
import Derived.Test.YtibpajlfcknegaaDoorC1Int
import Derived.Test.YtibpajlfcknegaaDoorKept
import Derived.Test.YtibpajlfcknegaaDoorS4Builder
import Derived.Lib.AppendIntMem
import Derived.Deep.RegionHeld3
namespace Go.Proofs.YtibpajlfcknegaaDoor.kit
open Go.ChangeShapes Go.WideShapes Go.ChangeAt Go.RowKit
set_option linter.unusedVariables false

def sgn (d : Bool) : UInt8 := if d then 43 else 45
def fmtX (x : Sess) : List UInt8 := Lib.itoa x.1 ++ ([46] ++ (Lib.itoa x.2.1 ++ ([sgn x.2.2.1] ++ Lib.itoa x.2.2.2)))
def fmtXs (l : List Sess) : List UInt8 := l.flatMap fun x => [32] ++ fmtX x
def fmtOs (l : List Int) : List UInt8 := l.flatMap Lib.itoa
def fmtM (L1 : List Int) (L2 : List Sess) : List UInt8 := if MOk L1 L2 then fmtOs L1 ++ fmtXs L2 else []
theorem okV_in' {v : Int} (h : okV v = true) : 0 ≤ v ∧ v ≤ 9 := of_decide_eq_true h
theorem okC_in' {v : Int} (h : okC v = true) : 0 ≤ v ∧ v ≤ 2 := of_decide_eq_true h
theorem okS_in' {v : Int} (h : okS v = true) : 1 ≤ v ∧ v ≤ 99 := of_decide_eq_true h
theorem sessOk_in {c s : Int} {d : Bool} {v : Int} (h : sessOk (c, s, d, v) = true) : (0 ≤ c ∧ c ≤ 2) ∧ (1 ≤ s ∧ s ≤ 99) ∧ (0 ≤ v ∧ v ≤ 9) := by
  unfold sessOk at h
  simp only [Bool.and_eq_true] at h
  exact ⟨okC_in' h.1, okS_in' h.2.1, okV_in' h.2.2⟩
theorem fmtOs_snoc (l : List Int) (k : Nat) (h : k < l.length) : fmtOs (l.take (k + 1)) = fmtOs (l.take k) ++ Lib.itoa (l.getD k 0) := by
  unfold fmtOs
  rw [take_snocI l k h, List.flatMap_append]
  simp
theorem take_snocS (l : List Sess) (k : Nat) (h : k < l.length) : l.take (k + 1) = l.take k ++ [sg l k] := by
  rw [List.take_succ_eq_append_getElem h, sg_eq h]
theorem fmtXs_snoc (l : List Sess) (k : Nat) (h : k < l.length) : fmtXs (l.take (k + 1)) = fmtXs (l.take k) ++ ([32] ++ fmtX (sg l k)) := by
  unfold fmtXs
  rw [take_snocS l k h, List.flatMap_append]
  simp
theorem fmtOs_len {l : List Int} {L2 : List Sess} (h : MOk l L2) (k : Nat) : (fmtOs (l.take k)).length ≤ 63 := by
  have h3 := h.1
  have hv := h.2.1
  match l, h3 with
  | [a, b, c], _ =>
    have ha := okV_in' (hv 0 (by simp))
    have hb := okV_in' (hv 1 (by simp))
    have hc := okV_in' (hv 2 (by simp))
    simp only [List.getD_cons_zero, List.getD_cons_succ] at ha hb hc
    have la := itoa_le a (by omega) (by omega)
    have lb := itoa_le b (by omega) (by omega)
    have lc := itoa_le c (by omega) (by omega)
    unfold fmtOs
    match k with
    | 0 => simp
    | 1 => simp; omega
    | 2 => simp; omega
    | (n + 3) => simp; omega
theorem fmtXs_len {L1 : List Int} {l : List Sess} (h : MOk L1 l) (k : Nat) : (fmtXs (l.take k)).length ≤ 66 * k := by
  induction k with
  | zero => simp [fmtXs]
  | succ k ih =>
    by_cases hk : k < l.length
    · rw [fmtXs_snoc l k hk]
      have hs := (h.2.2 k hk).1
      obtain ⟨c, s, d, v, hx⟩ : ∃ c s d v, sg l k = (c, s, d, v) := ⟨_, _, _, _, rfl⟩
      rw [hx] at hs ⊢
      obtain ⟨h1, h2, h3⟩ := sessOk_in hs
      have l1 := itoa_le c (by omega) (by omega)
      have l2 := itoa_le s (by omega) (by omega)
      have l3 := itoa_le v (by omega) (by omega)
      simp [fmtX]
      omega
    · rw [List.take_of_length_le (by omega)] at ih ⊢
      omega
set_option maxRecDepth 100000 in
set_option maxHeartbeats 8000000 in
theorem specFormatMachineA (a1 : Option Addr) (c1 : Nat) (L1 : List Int) (a2 : Option Addr) (c2 : Nat) (L2 : List Sess) (w : World) (h1 : L1.length ≤ 4194304) (h2 : L2.length ≤ 4194304) (ha1 : At w a1 L1) (ha2 : AtS w a2 L2) :
    Calls Tryd.prog 25 #[.agg #[.slice a1 L1.length c1, .slice a2 L2.length c2]] w fun e w' => e = .returned (str (fmtM L1 L2)) ∧ Below w.heap.size w w' := by
  obtain ⟨WB, hWB⟩ : ∃ W, W = w.alloc (.cells #[.slice a1 L1.length c1, .slice a2 L2.length c2] 25) := ⟨_, rfl⟩
  have x0 : WB.cell? ⟨w.heap.size, 0, none⟩ = some (.slice a1 L1.length c1) := by rw [hWB, World.cell?_alloc_at _ _ _ _ rfl]; rfl
  have x1 : WB.cell? ⟨w.heap.size, 1, none⟩ = some (.slice a2 L2.length c2) := by rw [hWB, World.cell?_alloc_at _ _ _ _ rfl]; rfl
  have HB := Lib.hid (show Below w.heap.size w WB by rw [hWB]; exact (Below.refl _ _).alloc (Nat.le_refl _) _)
  have hlt : w.heap.size < WB.heap.size := by rw [hWB]; simp
  have HW := Lib.hid hWB
  clear hWB
  have jv := specIsValidMachineA a1 c1 L1 a2 c2 L2 WB h1 h2 (ha1.later HB.out) (ha2.later HB.out)
  have HA1 := Lib.hid ha1
  have HA2 := Lib.hid ha2
  clear ha1 ha2
  by_cases hm : MOk L1 L2
  · rw [decide_eq_true hm] at jv
    have HM := Lib.hid hm
    have HF := Lib.hid (show fmtM L1 L2 = fmtOs L1 ++ fmtXs L2 by unfold fmtM; rw [if_pos hm])
    have JV := Lib.hid jv
    clear hm jv
    go_enter Tryd.func25, Tryd.ntmps25
    go_wp2_with fail
    rw [← HW.out]
    refine JV.out.mono ?_
    rintro e w1 ⟨rfl, hb⟩
    have HQ0 := Lib.hid hb
    replace x0 := (hb.cell (p := ⟨w.heap.size, 0, none⟩) hlt).trans x0
    replace x1 := (hb.cell (p := ⟨w.heap.size, 1, none⟩) hlt).trans x1
    replace hlt := Nat.lt_of_lt_of_le hlt hb.size
    replace HB := Lib.hid (HB.out.trans (hb.mono HB.out.size))
    clear hb JV HW
    go_wp2_with fail
    go_loopw [3, 4] (fun t i wr => ∃ k : Nat, k ≤ L1.length ∧ i = .int .i64 k ∧ t = str (fmtOs (L1.take k)) ∧ Hid (Below w1.heap.size w1 wr)) (fun _ i _ => L1.length - (intOf i).toNat)
    case atStart => exact ⟨0, Nat.zero_le _, rfl, rfl, Lib.hid (Below.refl _ _)⟩
    case round =>
      obtain ⟨k, hk, rfl, rfl, HQ⟩ := hrel
      have y0 := (HQ.out.cell (p := ⟨w.heap.size, 0, none⟩) hlt).trans x0
      have y1 := (HQ.out.cell (p := ⟨w.heap.size, 1, none⟩) hlt).trans x1
      have HBr := Lib.hid (HB.out.trans (HQ.out.mono HB.out.size))
      have hsz := HQ.out.size
      by_cases hlt1 : k < L1.length
      · obtain ⟨x, rfl, _, hc⟩ := (HA1.out.later HBr.out) k hlt1
        have hv := okV_in' (HM.out.2.1 k hlt1)
        have HS := Lib.hid (fmtOs_snoc L1 k hlt1)
        have lS := fmtOs_len HM.out k
        generalize L1.getD k 0 = z at hc hv HS
        generalize fmtOs (L1.take k) = T at lS HS
        have lz := itoa_le z (by omega) (by omega)
        have e1 : ¬ (9223372036854775807 < T.length + (Lib.itoa z).length) := by omega
        clear x0 x1
        go_wp2_with fail
        refine (specFormatInt z wr (by omega) (by omega)).mono ?_
        rintro e w2 ⟨rfl, hb2⟩
        have HQ2 := Lib.hid (HQ.out.trans (hb2.mono hsz))
        clear hb2 y0 y1 hc hsz
        go_wp2_with fail
        go_roundw
        case rel => exact ⟨k + 1, by omega, by go_num, by rw [HS.out]; exact str_app _ _, HQ2⟩
        case measure => simp [intOf]; omega
      · obtain rfl : k = L1.length := by omega
        have HS0 := Lib.hid (show fmtOs (L1.take L1.length) = fmtOs L1 by rw [List.take_length])
        have lT := fmtOs_len HM.out L1.length
        generalize fmtOs (L1.take L1.length) = T at HS0 lT
        clear x0 x1
        go_wp2_with fail
        go_loopw [3, 5] (fun t i wq => ∃ k : Nat, k ≤ L2.length ∧ i = .int .i64 k ∧ t = str (T ++ fmtXs (L2.take k)) ∧ Hid (Below wr.heap.size wr wq)) (fun _ i _ => L2.length - (intOf i).toNat)
        case atStart => exact ⟨0, Nat.zero_le _, rfl, by simp [fmtXs], Lib.hid (Below.refl _ _)⟩
        case round =>
          obtain ⟨k, hk2, rfl, rfl, HQ2⟩ := hrel
          have q1 := (HQ2.out.cell (p := ⟨w.heap.size, 1, none⟩) (Nat.lt_of_lt_of_le hlt hsz)).trans y1
          have HBq := Lib.hid (HBr.out.trans (HQ2.out.mono HBr.out.size))
          have hsq := HQ2.out.size
          by_cases hlt2 : k < L2.length
          · obtain ⟨g, o, rfl, hg, hc⟩ := HA2.out k hlt2
            obtain ⟨c0, c1', c2', c3⟩ := hc.below HBq.out hg
            obtain ⟨c, s, d, v, hsg⟩ : ∃ c s d v, sg L2 k = (c, s, d, v) := ⟨_, _, _, _, rfl⟩
            have hok := (HM.out.2.2 k hlt2).1
            have HS := Lib.hid (show T ++ fmtXs (L2.take (k + 1)) = (T ++ fmtXs (L2.take k)) ++ ([32] ++ fmtX (c, s, d, v)) by rw [fmtXs_snoc L2 k hlt2, hsg, List.append_assoc])
            rw [hsg] at c0 c1' c2' c3 hok
            simp only at c0 c1' c2' c3
            obtain ⟨ic, is, iv⟩ := sessOk_in hok
            have lc := itoa_le c (by omega) (by omega)
            have ls := itoa_le s (by omega) (by omega)
            have lv := itoa_le v (by omega) (by omega)
            have lX : (T ++ fmtXs (L2.take k)).length ≤ 300000000 := by have := fmtXs_len HM.out k; rw [List.length_append]; omega
            generalize T ++ fmtXs (L2.take k) = S at HS lX
            clear hc hsg hok y0 y1 lT HS0
            have e1 : ¬ (9223372036854775807 < S.length + 1) := by omega
            have e2 : ¬ (9223372036854775807 < S.length + 1 + (Lib.itoa c).length) := by omega
            have e3 : ¬ (9223372036854775807 < S.length + 1 + (Lib.itoa c).length + 1) := by omega
            have e4 : ¬ (9223372036854775807 < S.length + 1 + (Lib.itoa c).length + 1 + (Lib.itoa s).length) := by omega
            have e5 : ¬ (9223372036854775807 < S.length + 1 + (Lib.itoa c).length + 1 + (Lib.itoa s).length + 1) := by omega
            have e6 : ¬ (9223372036854775807 < S.length + 1 + (Lib.itoa c).length + 1 + (Lib.itoa s).length + 1 + (Lib.itoa v).length) := by omega
            cases d
            · skip
              go_wp2_with fail
              obtain ⟨wy, hwy⟩ : ∃ W, W = wr.alloc (.cells #[.int .i64 c, .int .i64 s, .bool false, .int .i64 v] 48) := ⟨_, rfl⟩
              rw [← hwy]
              obtain ⟨pb, hpb⟩ : ∃ p, p = wr.heap.size := ⟨_, rfl⟩
              rw [← hpb]
              have z0 : wy.cell? ⟨pb, 0, none⟩ = some (.int .i64 c) := by rw [hwy, hpb, World.cell?_alloc_at _ _ _ _ rfl]; rfl
              have z1 : wy.cell? ⟨pb, 1, none⟩ = some (.int .i64 s) := by rw [hwy, hpb, World.cell?_alloc_at _ _ _ _ rfl]; rfl
              have z3 : wy.cell? ⟨pb, 3, none⟩ = some (.int .i64 v) := by rw [hwy, hpb, World.cell?_alloc_at _ _ _ _ rfl]; rfl
              have hby : Below wr.heap.size wr wy := by rw [hwy]; exact (Below.refl _ _).alloc (Nat.le_refl _) _
              have hpy : pb < wy.heap.size := by rw [hwy, hpb]; simp
              have HQ3 := Lib.hid (HQ2.out.trans (hby.mono hsq))
              have hz0 : wy.heap.size ≤ wy.heap.size := Nat.le_refl _
              obtain ⟨W0, HW0⟩ : ∃ W, Hid (W = wy) := ⟨_, Lib.hid rfl⟩
              have hk0 : Below W0.heap.size W0 wy ∧ (∀ b o, b < W0.heap.size → wy.cell? ⟨b, o, none⟩ = W0.cell? ⟨b, o, none⟩) := by rw [← HW0.out]; exact kept_of (Below.refl _ _)
              rw [← HW0.out] at z0 z1 z3 hpy hz0
              clear hwy hpb hby c0 c1' c2' c3 q1
              go_region_held3 (fun w' => Below W0.heap.size W0 w' ∧ (∀ b o, b < W0.heap.size → w'.cell? ⟨b, o, none⟩ = W0.cell? ⟨b, o, none⟩)) (first | (with_reducible assumption) | ((with_reducible refine kept_drew ?_); with_reducible assumption) | ((with_reducible refine kept_next (w := ?_) ?_ ?_ hz0); rotate_left; with_reducible assumption; with_reducible assumption)) (first | (go_at_call 47; refine (specFormatInt _ _ (by omega) (by omega)).mono ?_; rintro e w3 ⟨rfl, hb3⟩))
              all_goals
                clear e1 e2 e3 e4 e5 e6 z0 z1 z3
                rename_i hk2'
                have HQ4 := Lib.hid (HQ3.out.trans (by rw [HW0.out] at hk2'; exact hk2'.1.mono HQ3.out.size))
                clear hk2' hk0
                go_wp2_with fail
                go_roundw
                case rel => exact ⟨k + 1, by omega, by go_num, by rw [HS.out]; exact congrArg Value.string (by apply ByteArray.ext; apply Array.ext'; simp [fmtX, sgn]), HQ4⟩
                case measure => simp [intOf]; omega
            · skip
              go_wp2_with fail
              obtain ⟨wy, hwy⟩ : ∃ W, W = wr.alloc (.cells #[.int .i64 c, .int .i64 s, .bool true, .int .i64 v] 48) := ⟨_, rfl⟩
              rw [← hwy]
              obtain ⟨pb, hpb⟩ : ∃ p, p = wr.heap.size := ⟨_, rfl⟩
              rw [← hpb]
              have z0 : wy.cell? ⟨pb, 0, none⟩ = some (.int .i64 c) := by rw [hwy, hpb, World.cell?_alloc_at _ _ _ _ rfl]; rfl
              have z1 : wy.cell? ⟨pb, 1, none⟩ = some (.int .i64 s) := by rw [hwy, hpb, World.cell?_alloc_at _ _ _ _ rfl]; rfl
              have z3 : wy.cell? ⟨pb, 3, none⟩ = some (.int .i64 v) := by rw [hwy, hpb, World.cell?_alloc_at _ _ _ _ rfl]; rfl
              have hby : Below wr.heap.size wr wy := by rw [hwy]; exact (Below.refl _ _).alloc (Nat.le_refl _) _
              have hpy : pb < wy.heap.size := by rw [hwy, hpb]; simp
              have HQ3 := Lib.hid (HQ2.out.trans (hby.mono hsq))
              have hz0 : wy.heap.size ≤ wy.heap.size := Nat.le_refl _
              obtain ⟨W0, HW0⟩ : ∃ W, Hid (W = wy) := ⟨_, Lib.hid rfl⟩
              have hk0 : Below W0.heap.size W0 wy ∧ (∀ b o, b < W0.heap.size → wy.cell? ⟨b, o, none⟩ = W0.cell? ⟨b, o, none⟩) := by rw [← HW0.out]; exact kept_of (Below.refl _ _)
              rw [← HW0.out] at z0 z1 z3 hpy hz0
              clear hwy hpb hby c0 c1' c2' c3 q1
              go_region_held3 (fun w' => Below W0.heap.size W0 w' ∧ (∀ b o, b < W0.heap.size → w'.cell? ⟨b, o, none⟩ = W0.cell? ⟨b, o, none⟩)) (first | (with_reducible assumption) | ((with_reducible refine kept_drew ?_); with_reducible assumption) | ((with_reducible refine kept_next (w := ?_) ?_ ?_ hz0); rotate_left; with_reducible assumption; with_reducible assumption)) (first | (go_at_call 47; refine (specFormatInt _ _ (by omega) (by omega)).mono ?_; rintro e w3 ⟨rfl, hb3⟩))
              all_goals
                clear e1 e2 e3 e4 e5 e6 z0 z1 z3
                rename_i hk2'
                have HQ4 := Lib.hid (HQ3.out.trans (by rw [HW0.out] at hk2'; exact hk2'.1.mono HQ3.out.size))
                clear hk2' hk0
                go_wp2_with fail
                go_roundw
                case rel => exact ⟨k + 1, by omega, by go_num, by rw [HS.out]; exact congrArg Value.string (by apply ByteArray.ext; apply Array.ext'; simp [fmtX, sgn]), HQ4⟩
                case measure => simp [intOf]; omega
          · obtain rfl : k = L2.length := by omega
            have HX := Lib.hid (show T ++ fmtXs (L2.take L2.length) = fmtM L1 L2 by rw [List.take_length, HF.out, HS0.out])
            generalize T ++ fmtXs (L2.take L2.length) = S at HX
            go_wp2_with fail
            go_ret
            exact ⟨by rw [← HX.out]; rfl, HBq.out⟩
  · rw [decide_eq_false hm] at jv
    have HF := Lib.hid (show fmtM L1 L2 = [] by unfold fmtM; rw [if_neg hm])
    have JV := Lib.hid jv
    clear hm jv
    go_enter Tryd.func25, Tryd.ntmps25
    go_wp2_with fail
    rw [← HW.out]
    refine JV.out.mono ?_
    rintro e w1 ⟨rfl, hb⟩
    go_wp2_with fail
    go_ret
    exact ⟨by rw [HF.out]; rfl, HB.out.trans (hb.mono HB.out.size)⟩
theorem specFormatMachine (b1 b2 : Nat) (v1 v2 : Value) (L1 : List Int) (L2 : List Sess) (w : World) (h1 : L1.length ≤ 4194304) (h2 : L2.length ≤ 4194304) (o1 : OwnI b1 w v1 L1) (o2 : OwnS b2 w v2 L2) :
    Calls Tryd.prog 25 #[.agg #[v1, v2]] w fun e w' => e = .returned (.string ⟨(fmtM L1 L2).toArray⟩) ∧ Below w.heap.size w w' := by
  obtain ⟨a1, c1, rfl, _, _, t1, _⟩ := o1.form
  obtain ⟨a2, c2, rfl, _, _, t2, _⟩ := o2.form
  exact specFormatMachineA a1 c1 L1 a2 c2 L2 w h1 h2 t1 t2
end Go.Proofs.YtibpajlfcknegaaDoor.kit
