/-
  Chapter 5: what spec's and impl's ResultAt return. Written by tools/gen_S5Res.py.
-/
import Derived.Test.YtbnepdecfnhgoaaS5Rep
import Derived.Test.YtbnepdecfnhgoaaS5App
namespace Go.Proofs.Ytbnepdecfnhgoaa.kit
open Go.ChangeShapes Go.WideShapes Go.ChangeAt Go.RowKit
set_option linter.unusedVariables false
set_option linter.unusedSimpArgs false

def resOk (L : List Ent) (i : Int) : Prop := LOk L ∧ 0 ≤ i ∧ i < (L.length : Int)
instance (L : List Ent) (i : Int) : Decidable (resOk L i) := by unfold resOk; infer_instance
def resD (L : List Ent) (i : Int) : Bool := if resOk L i then appD (rep L i.toNat).1 (rep L i.toNat).2 (gE L i.toNat).c (gE L i.toNat).s (gE L i.toNat).k (gE L i.toNat).o (gE L i.toNat).d (gE L i.toNat).v else false
def resV (L : List Ent) (i : Int) : Int := if resOk L i then appV (rep L i.toNat).1 (rep L i.toNat).2 (gE L i.toNat).c (gE L i.toNat).s (gE L i.toNat).k (gE L i.toNat).o (gE L i.toNat).d (gE L i.toNat).v else 0
def resB (L : List Ent) (i : Int) : Bool := if resOk L i then appB (rep L i.toNat).1 (rep L i.toNat).2 (gE L i.toNat).c (gE L i.toNat).s (gE L i.toNat).k (gE L i.toNat).o (gE L i.toNat).d (gE L i.toNat).v else false
theorem rep_take (L : List Ent) (n : Nat) : ∀ k, k ≤ n → rep (L.take n) k = rep L k
  | 0, _ => rfl
  | k + 1, h => by
    show appE1 (rep (L.take n) k) (gE (L.take n) k) = appE1 (rep L k) (gE L k)
    rw [rep_take L n k (by omega), gE_take (by omega)]
theorem sliced_upto (a : Option Addr) (k c : Nat) : sliced a 0 k c 7 = .slice a k c := by
  unfold sliced
  by_cases h : c = 0
  · rw [if_pos h, Nat.sub_zero, Nat.sub_zero]
  · rw [if_neg h, Nat.sub_zero, Nat.sub_zero, Nat.zero_mul]
    cases a with
    | none => rfl
    | some p => rw [Option.map_some, add_zero']
theorem run_uptoE (W : World) (a : Option Addr) (n cap k : Nat) (hk : k ≤ cap) : (Instr.slice 44 (.slice a n cap) none (some (.int .i64 (k : Int))) none).run Try.prog W = .ok (.slice a k cap) W := by
  rw [run_slice_h (P := Try.prog) W 44 a n cap (by kernel_rfl) .i64 (k : Int) (by omega) (by omega)]
  have hs : (sizeOf (Try.prog.elem 44)).run Try.prog W = .ok 7 W := by kernel_rfl
  rw [hs]
  show Result.ok (sliced a 0 (k : Int).toNat cap 7) W = _
  rw [Int.toNat_natCast, sliced_upto]
set_option maxRecDepth 100000 in
set_option maxHeartbeats 16000000 in
theorem implResultAtA (a : Option Addr) (c : Nat) (L : List Ent) (i : Int) (w : World) (hl : L.length ≤ 2097152) (hcap : L.length ≤ c) (hcm : c ≤ maxLen) (ha : AtE w a L) :
    Calls Try.prog 24 #[.slice a L.length c, .int .i64 i] w fun e w' => e = .returned (.tuple #[.agg #[.bool (resD L i), .int .i64 (resV L i)], .bool (resB L i)]) ∧ Below w.heap.size w w' := by
  have HA := Lib.hid ha
  have HB0 := Lib.hid ((Below.refl w.heap.size w).alloc (Nat.le_refl _) (.cells #[.bool false, .int .i64 0] 33))
  have hR := Box2.new w 33 (.bool false) (.int .i64 0)
  have C1 := Lib.hid (implIsLogA a c L (w.alloc (.cells #[.bool false, .int .i64 0] 33)) hl (ha.later HB0.out))
  clear ha
  by_cases hok : resOk L i
  · obtain ⟨hlog, hi0, hi1⟩ := hok
    obtain ⟨k, rfl⟩ := Int.eq_ofNat_of_zero_le hi0
    have hlt : k < L.length := by omega
    have hok : resOk L (k : Int) := ⟨hlog, hi0, hi1⟩
    obtain ⟨g, o, rfl, hg, hc⟩ := HA.out k hlt
    obtain ⟨xe, xc, xs, xk, xo, xd, xv, hx⟩ : ∃ xe xc xs xk xo xd xv, gE L k = ⟨xe, xc, xs, xk, xo, xd, xv⟩ := ⟨_, _, _, _, _, _, _, rfl⟩
    have hrD : resD L (k : Int) = appD (rep L k).1 (rep L k).2 xc xs xk xo xd xv := by unfold resD; rw [if_pos hok, Int.toNat_natCast, hx]
    have hrV : resV L (k : Int) = appV (rep L k).1 (rep L k).2 xc xs xk xo xd xv := by unfold resV; rw [if_pos hok, Int.toNat_natCast, hx]
    have hrB : resB L (k : Int) = appB (rep L k).1 (rep L k).2 xc xs xk xo xd xv := by unfold resB; rw [if_pos hok, Int.toNat_natCast, hx]
    rw [hx] at hc
    obtain ⟨hl1, hl2⟩ := rep_len L k
    have hrt := rep_take L k k (Nat.le_refl _)
    have htl : (L.take k).length = k := by rw [List.length_take]; omega
    generalize rep L k = m at *
    obtain ⟨TD, hTD⟩ : ∃ t, appD m.1 m.2 xc xs xk xo xd xv = t := ⟨_, rfl⟩
    obtain ⟨TV, hTV⟩ : ∃ t, appV m.1 m.2 xc xs xk xo xd xv = t := ⟨_, rfl⟩
    obtain ⟨TB, hTB⟩ : ∃ t, appB m.1 m.2 xc xs xk xo xd xv = t := ⟨_, rfl⟩
    obtain ⟨TO, hTO⟩ : ∃ t, appO m.1 m.2 xc xs xk xo xd xv = t := ⟨_, rfl⟩
    obtain ⟨TS, hTS⟩ : ∃ t, appS m.1 m.2 xc xs xk xo xd xv = t := ⟨_, rfl⟩
    have HTD := Lib.hid hTD
    have HTV := Lib.hid hTV
    have HTB := Lib.hid hTB
    have HTO := Lib.hid hTO
    have HTS := Lib.hid hTS
    rw [hTD] at hrD
    rw [hTV] at hrV
    rw [hTB] at hrB
    have HRD := Lib.hid hrD
    have HRV := Lib.hid hrV
    have HRB := Lib.hid hrB
    have HRT := Lib.hid hrt
    have HTL := Lib.hid htl
    have HC := Lib.hid hc
    have HLOG := Lib.hid hlog
    clear hTD hTV hTB hTO hTS hrD hrV hrB hrt htl hx hok hc
    rw [decide_eq_true hlog] at C1
    clear hlog
    unfold maxLen at hcm
    have t1 : decide ((k : Int) < 0) = false := decide_eq_false (by omega)
    have t2 : decide ((k : Int) ≥ (L.length : Int)) = false := decide_eq_false (by omega)
    have t3 : decide (L.length ≤ k) = false := decide_eq_false (by omega)
    go_enter Try.func24, Try.ntmps24
    go_wp2_with (go_at_call 31; refine (C1.out).mono ?_; rintro e w1 ⟨rfl, hb1⟩)
    have HBK := Lib.hid (HB0.out.trans (hb1.mono HB0.out.size))
    have HRK := Lib.hid (hR.later hb1)
    obtain ⟨wk, rfl⟩ : ∃ W, W = w1 := ⟨_, rfl⟩
    clear hb1 hR C1 t1 t2 t3
    obtain ⟨c0, c1, c2, c3, c4, c5, c6⟩ := HC.out.below HBK.out hg
    have hgk : g < wk.heap.size := Nat.lt_of_lt_of_le hg HBK.out.size
    clear c0
    simp only at c1 c2 c3 c4 c5 c6
    have k3 : (0 : Int) ≤ (k : Int) := by omega
    have k5 : (k : Int) < (L.length : Int) := by omega
    obtain ⟨a', ha1, ha2, -⟩ := before_at (c := c) (HA.out.later HBK.out) k (by omega) (fun h => by cases h)
    have HA1 := Lib.hid ha1
    have HA2 := Lib.hid ha2
    clear ha1 ha2
    go_upto_region 3 with (fail)
    go_cut [7, 8] (fun s0 s1 wx => ∃ p1 : Nat, s0 = .pointer (some ⟨p1, 0, none⟩) ∧ s1 = .bool TB ∧ Box2 wx p1 33 (.bool TD) (.int .i64 TV) ∧ Box2 wx w.heap.size 33 (.bool false) (.int .i64 0) ∧ Below w.heap.size w wx)
    case first =>
      refine region_inv (m := 16) [24, 25, 26, 27, 28, 29, 30, 31, 32, 33, 23, 34, 35, 36, 6, 7] [12, 13] (Fs [isV (.slice (some ⟨g, o, none⟩) L.length c), isV (.int .i64 (k : Int)), isV (.slice a' k k), isM (wk.heap.size) m.1 m.2 id, isV (.slice (some ⟨g, o, none⟩) L.length c), isV (.int .i64 (k : Int)), isV (.pointer (some ⟨g, o + k * 7, none⟩)), isV (.pointer (some ⟨g, o + k * 7 + 1, none⟩)), isV (.agg #[.int .i64 xc, .int .i64 xs, .int .i64 xk, .int .i64 xo, .int .i64 xd, .int .i64 xv]), isM (wk.heap.size) TO TS (fun mm => .tuple #[mm, .agg #[.bool TD, .int .i64 TV], .bool TB]), isM (wk.heap.size) TO TS (fun mm => .tuple #[mm, .agg #[.bool TD, .int .i64 TV], .bool TB]), isM (wk.heap.size) TO TS id, isV (.agg #[.bool TD, .int .i64 TV]), isV (.bool TB), isB (wk.heap.size) 27 (.slice none 0 0) (.slice none 0 0), isB (wk.heap.size) 33 (.bool false) (.int .i64 0)]) (by kernel_rfl) (by decide) rfl (by decide) (by kernel_rfl) (by kernel_rfl) (by kernel_rfl) (fun _ _ _ _ _ h => h) (Fs_mono ⟨isV_mono _, isV_mono _, isV_mono _, isM_mono _ _ _ _, isV_mono _, isV_mono _, isV_mono _, isV_mono _, isV_mono _, isM_mono _ _ _ _, isM_mono _ _ _ _, isM_mono _ _ _ _, isV_mono _, isV_mono _, isB_mono _ _ _ _, isB_mono _ _ _ _, trivial⟩) ?step ?float ?tail
      case float =>
        intro f hf vs wq hd
        simp only [List.mem_cons, List.not_mem_nil, or_false] at hf
        rcases hf with rfl | rfl
        · obtain ⟨x1, x2, e7, h1, h2⟩ : (isM (wk.heap.size) TO TS (fun mm => .tuple #[mm, .agg #[.bool TD, .int .i64 TV], .bool TB])) (vs 10) wq := hd 10 (List.contains_iff_mem.1 (by kernel_rfl))
          refine ⟨_, .agg #[.bool TD, .int .i64 TV], rfl, rfl, .inl ⟨by rfl, fun w9 => ?_⟩, rfl⟩
          simp only [lay, Act.put, List.setIfInBounds_toArray, List.set_cons_zero, List.set_cons_succ, List.getD_cons_zero, List.getD_cons_succ, id_eq]
          rw [e7]
          go_simp
        · obtain ⟨x1, x2, e7, h1, h2⟩ : (isM (wk.heap.size) TO TS (fun mm => .tuple #[mm, .agg #[.bool TD, .int .i64 TV], .bool TB])) (vs 10) wq := hd 10 (List.contains_iff_mem.1 (by kernel_rfl))
          refine ⟨_, .bool TB, rfl, rfl, .inl ⟨by rfl, fun w9 => ?_⟩, rfl⟩
          simp only [lay, Act.put, List.setIfInBounds_toArray, List.set_cons_zero, List.set_cons_succ, List.getD_cons_zero, List.getD_cons_succ, id_eq]
          rw [e7]
          go_simp
      case step =>
        intro i hi vs wq hBq hd
        rcases (show i = 0 ∨ i = 1 ∨ i = 2 ∨ i = 3 ∨ i = 4 ∨ i = 5 ∨ i = 6 ∨ i = 7 ∨ i = 8 ∨ i = 9 ∨ i = 10 ∨ i = 11 ∨ i = 12 ∨ i = 13 ∨ i = 14 ∨ i = 15 from by omega) with rfl | rfl | rfl | rfl | rfl | rfl | rfl | rfl | rfl | rfl | rfl | rfl | rfl | rfl | rfl | rfl
        · refine wpOp_step (o := _) rfl (fun K' hK => ?_)
          have HK := Lib.hid hK
          clear hK
          simp only [lay, Act.put, List.setIfInBounds_toArray, List.set_cons_zero, List.set_cons_succ, List.getD_cons_zero, List.getD_cons_succ, id_eq]
          go_simp
          refine HK.out _ _ ⟨_, ?_, Below.refl _ _, rfl⟩
          simp only [lay, Act.put, List.setIfInBounds_toArray, List.set_cons_zero, List.set_cons_succ, List.getD_cons_zero, List.getD_cons_succ, id_eq]
        · refine wpOp_step (o := _) rfl (fun K' hK => ?_)
          have HK := Lib.hid hK
          clear hK
          simp only [lay, Act.put, List.setIfInBounds_toArray, List.set_cons_zero, List.set_cons_succ, List.getD_cons_zero, List.getD_cons_succ, id_eq]
          go_simp
          refine HK.out _ _ ⟨_, ?_, Below.refl _ _, rfl⟩
          simp only [lay, Act.put, List.setIfInBounds_toArray, List.set_cons_zero, List.set_cons_succ, List.getD_cons_zero, List.getD_cons_succ, id_eq]
        · have e0 : vs 0 = .slice (some ⟨g, o, none⟩) L.length c := hd 0 (List.contains_iff_mem.1 (by kernel_rfl))
          have e1 : vs 1 = .int .i64 (k : Int) := hd 1 (List.contains_iff_mem.1 (by kernel_rfl))
          refine wpOp_step (o := _) rfl (fun K' hK => ?_)
          have HK := Lib.hid hK
          clear hK
          simp only [lay, Act.put, List.setIfInBounds_toArray, List.set_cons_zero, List.set_cons_succ, List.getD_cons_zero, List.getD_cons_succ, id_eq]
          rw [e0, e1]
          go_simp
          go_at_call 65
          refine (beforeE (some ⟨g, o, none⟩) L.length c k wq (by omega) hcap (by unfold maxLen; omega)).mono ?_
          rintro e w2 ⟨he, rfl⟩
          rw [HA1.out] at he
          subst he
          refine HK.out _ _ ⟨_, ?_, Below.refl _ _, rfl⟩
          simp only [lay, Act.put, List.setIfInBounds_toArray, List.set_cons_zero, List.set_cons_succ, List.getD_cons_zero, List.getD_cons_succ, id_eq]
          rw [e0, e1]
        · have e2 : vs 2 = .slice a' k k := hd 2 (List.contains_iff_mem.1 (by kernel_rfl))
          have J := implReplayedA a' k (L.take k) wq (by rw [HTL.out]; omega) (HA2.out.later hBq)
          rw [HTL.out, HRT.out] at J
          have HJ := Lib.hid J
          clear J
          refine wpOp_step (o := _) rfl (fun K' hK => ?_)
          have HK := Lib.hid hK
          clear hK
          simp only [lay, Act.put, List.setIfInBounds_toArray, List.set_cons_zero, List.set_cons_succ, List.getD_cons_zero, List.getD_cons_succ, id_eq]
          rw [e2]
          go_simp
          go_at_call 66
          refine HJ.out.mono ?_
          rintro e w2 ⟨x1, x2, rfl, h1, h2, hb⟩
          refine HK.out _ _ ⟨_, ?_, hb, x1, x2, rfl, h1.mono hBq.size, h2.mono hBq.size⟩
          simp only [lay, Act.put, List.setIfInBounds_toArray, List.set_cons_zero, List.set_cons_succ, List.getD_cons_zero, List.getD_cons_succ, id_eq]
          rw [e2]
        · refine wpOp_step (o := _) rfl (fun K' hK => ?_)
          have HK := Lib.hid hK
          clear hK
          simp only [lay, Act.put, List.setIfInBounds_toArray, List.set_cons_zero, List.set_cons_succ, List.getD_cons_zero, List.getD_cons_succ, id_eq]
          go_simp
          refine HK.out _ _ ⟨_, ?_, Below.refl _ _, rfl⟩
          simp only [lay, Act.put, List.setIfInBounds_toArray, List.set_cons_zero, List.set_cons_succ, List.getD_cons_zero, List.getD_cons_succ, id_eq]
        · refine wpOp_step (o := _) rfl (fun K' hK => ?_)
          have HK := Lib.hid hK
          clear hK
          simp only [lay, Act.put, List.setIfInBounds_toArray, List.set_cons_zero, List.set_cons_succ, List.getD_cons_zero, List.getD_cons_succ, id_eq]
          go_simp
          refine HK.out _ _ ⟨_, ?_, Below.refl _ _, rfl⟩
          simp only [lay, Act.put, List.setIfInBounds_toArray, List.set_cons_zero, List.set_cons_succ, List.getD_cons_zero, List.getD_cons_succ, id_eq]
        · have e1 : vs 4 = .slice (some ⟨g, o, none⟩) L.length c := hd 4 (List.contains_iff_mem.1 (by kernel_rfl))
          have e2 : vs 5 = .int .i64 (k : Int) := hd 5 (List.contains_iff_mem.1 (by kernel_rfl))
          refine wpOp_step (o := _) rfl (fun K' hK => ?_)
          have HK := Lib.hid hK
          clear hK
          simp only [lay, Act.put, List.setIfInBounds_toArray, List.set_cons_zero, List.set_cons_succ, List.getD_cons_zero, List.getD_cons_succ, id_eq]
          rw [e1, e2]
          go_simp
          refine HK.out _ _ ⟨_, ?_, Below.refl _ _, rfl⟩
          simp only [lay, Act.put, List.setIfInBounds_toArray, List.set_cons_zero, List.set_cons_succ, List.getD_cons_zero, List.getD_cons_succ, id_eq]
          rw [e1, e2]
        · have e1 : vs 6 = .pointer (some ⟨g, o + k * 7, none⟩) := hd 6 (List.contains_iff_mem.1 (by kernel_rfl))
          refine wpOp_step (o := _) rfl (fun K' hK => ?_)
          have HK := Lib.hid hK
          clear hK
          simp only [lay, Act.put, List.setIfInBounds_toArray, List.set_cons_zero, List.set_cons_succ, List.getD_cons_zero, List.getD_cons_succ, id_eq]
          rw [e1]
          go_simp
          refine HK.out _ _ ⟨_, ?_, Below.refl _ _, rfl⟩
          simp only [lay, Act.put, List.setIfInBounds_toArray, List.set_cons_zero, List.set_cons_succ, List.getD_cons_zero, List.getD_cons_succ, id_eq]
          rw [e1]
        · have e1 : vs 7 = .pointer (some ⟨g, o + k * 7 + 1, none⟩) := hd 7 (List.contains_iff_mem.1 (by kernel_rfl))
          have y1 := (hBq.cell (p := ⟨g, o + k * 7 + 1, none⟩) hgk).trans c1
          have y2 := (hBq.cell (p := ⟨g, o + k * 7 + 2, none⟩) hgk).trans c2
          have y3 := (hBq.cell (p := ⟨g, o + k * 7 + 3, none⟩) hgk).trans c3
          have y4 := (hBq.cell (p := ⟨g, o + k * 7 + 4, none⟩) hgk).trans c4
          have y5 := (hBq.cell (p := ⟨g, o + k * 7 + 5, none⟩) hgk).trans c5
          have y6 := (hBq.cell (p := ⟨g, o + k * 7 + 6, none⟩) hgk).trans c6
          refine wpOp_step (o := _) rfl (fun K' hK => ?_)
          have HK := Lib.hid hK
          clear hK
          simp only [lay, Act.put, List.setIfInBounds_toArray, List.set_cons_zero, List.set_cons_succ, List.getD_cons_zero, List.getD_cons_succ, id_eq]
          rw [e1]
          go_simp
          refine HK.out _ _ ⟨_, ?_, Below.refl _ _, rfl⟩
          simp only [lay, Act.put, List.setIfInBounds_toArray, List.set_cons_zero, List.set_cons_succ, List.getD_cons_zero, List.getD_cons_succ, id_eq]
          rw [e1]
        · obtain ⟨x1, x2, e3, ho1, ho2⟩ : isM (wk.heap.size) m.1 m.2 id (vs 3) wq := hd 3 (List.contains_iff_mem.1 (by kernel_rfl))
          simp only [id] at e3
          obtain ⟨y1, q1, rfl⟩ := ho1.shape
          obtain ⟨y2, q2, rfl⟩ := ho2.shape
          have e8 : vs 8 = .agg #[.int .i64 xc, .int .i64 xs, .int .i64 xk, .int .i64 xo, .int .i64 xd, .int .i64 xv] := hd 8 (List.contains_iff_mem.1 (by kernel_rfl))
          refine wpOp_step (o := _) rfl (fun K' hK => ?_)
          have HK := Lib.hid hK
          clear hK
          simp only [lay, Act.put, List.setIfInBounds_toArray, List.set_cons_zero, List.set_cons_succ, List.getD_cons_zero, List.getD_cons_succ, id_eq]
          rw [e3, e8]
          go_simp
          go_at_call 11
          refine (implApplyOp _ _ _ _ m.1 m.2 xc xs xk xo xd xv wq hl1 hl2 (ho1) (ho2)).mono ?_
          rintro e w2 ⟨x1, x2, he, h1, h2, hb⟩
          rw [HTO.out] at h1
          rw [HTS.out] at h2
          rw [HTD.out, HTV.out, HTB.out] at he
          subst he
          refine HK.out _ _ ⟨_, ?_, hb, x1, x2, rfl, h1.mono hBq.size, h2.mono hBq.size⟩
          simp only [lay, Act.put, List.setIfInBounds_toArray, List.set_cons_zero, List.set_cons_succ, List.getD_cons_zero, List.getD_cons_succ, id_eq]
          rw [e3, e8]
        · have f6 : (isM (wk.heap.size) TO TS (fun mm => .tuple #[mm, .agg #[.bool TD, .int .i64 TV], .bool TB])) (vs 9) wq := hd 9 (List.contains_iff_mem.1 (by kernel_rfl))
          refine wpOp_step (o := _) rfl (fun K' hK => ?_)
          have HK := Lib.hid hK
          clear hK
          simp only [lay, Act.put, List.setIfInBounds_toArray, List.set_cons_zero, List.set_cons_succ, List.getD_cons_zero, List.getD_cons_succ, id_eq]
          go_simp
          refine HK.out _ _ ⟨_, ?_, Below.refl _ _, f6⟩
          simp only [lay, Act.put, List.setIfInBounds_toArray, List.set_cons_zero, List.set_cons_succ, List.getD_cons_zero, List.getD_cons_succ, id_eq]
        · obtain ⟨x1, x2, e7, h1, h2⟩ : (isM (wk.heap.size) TO TS (fun mm => .tuple #[mm, .agg #[.bool TD, .int .i64 TV], .bool TB])) (vs 10) wq := hd 10 (List.contains_iff_mem.1 (by kernel_rfl))
          refine wpOp_step (o := _) rfl (fun K' hK => ?_)
          have HK := Lib.hid hK
          clear hK
          simp only [lay, Act.put, List.setIfInBounds_toArray, List.set_cons_zero, List.set_cons_succ, List.getD_cons_zero, List.getD_cons_succ, id_eq]
          rw [e7]
          go_simp
          refine HK.out _ _ ⟨_, ?_, Below.refl _ _, x1, x2, rfl, h1, h2⟩
          simp only [lay, Act.put, List.setIfInBounds_toArray, List.set_cons_zero, List.set_cons_succ, List.getD_cons_zero, List.getD_cons_succ, id_eq]
          rw [e7]
        · obtain ⟨x1, x2, e7, h1, h2⟩ : (isM (wk.heap.size) TO TS (fun mm => .tuple #[mm, .agg #[.bool TD, .int .i64 TV], .bool TB])) (vs 10) wq := hd 10 (List.contains_iff_mem.1 (by kernel_rfl))
          refine wpOp_step (o := _) rfl (fun K' hK => ?_)
          have HK := Lib.hid hK
          clear hK
          simp only [lay, Act.put, List.setIfInBounds_toArray, List.set_cons_zero, List.set_cons_succ, List.getD_cons_zero, List.getD_cons_succ, id_eq]
          rw [e7]
          go_simp
          refine HK.out _ _ ⟨_, ?_, Below.refl _ _, rfl⟩
          simp only [lay, Act.put, List.setIfInBounds_toArray, List.set_cons_zero, List.set_cons_succ, List.getD_cons_zero, List.getD_cons_succ, id_eq]
          rw [e7]
        · obtain ⟨x1, x2, e7, h1, h2⟩ : (isM (wk.heap.size) TO TS (fun mm => .tuple #[mm, .agg #[.bool TD, .int .i64 TV], .bool TB])) (vs 10) wq := hd 10 (List.contains_iff_mem.1 (by kernel_rfl))
          refine wpOp_step (o := _) rfl (fun K' hK => ?_)
          have HK := Lib.hid hK
          clear hK
          simp only [lay, Act.put, List.setIfInBounds_toArray, List.set_cons_zero, List.set_cons_succ, List.getD_cons_zero, List.getD_cons_succ, id_eq]
          rw [e7]
          go_simp
          refine HK.out _ _ ⟨_, ?_, Below.refl _ _, rfl⟩
          simp only [lay, Act.put, List.setIfInBounds_toArray, List.set_cons_zero, List.set_cons_succ, List.getD_cons_zero, List.getD_cons_succ, id_eq]
          rw [e7]
        · refine wpOp_step (o := _) rfl (fun K' hK => ?_)
          have HK := Lib.hid hK
          clear hK
          simp only [lay, Act.put, List.setIfInBounds_toArray, List.set_cons_zero, List.set_cons_succ, List.getD_cons_zero, List.getD_cons_succ, id_eq]
          go_simp
          refine HK.out _ _ ⟨_, ?_, (Below.refl _ _).alloc (Nat.le_refl _) _, _, rfl, Box2.new _ _ _ _, hBq.size⟩
          simp only [lay, Act.put, List.setIfInBounds_toArray, List.set_cons_zero, List.set_cons_succ, List.getD_cons_zero, List.getD_cons_succ, id_eq]
        · refine wpOp_step (o := _) rfl (fun K' hK => ?_)
          have HK := Lib.hid hK
          clear hK
          simp only [lay, Act.put, List.setIfInBounds_toArray, List.set_cons_zero, List.set_cons_succ, List.getD_cons_zero, List.getD_cons_succ, id_eq]
          go_simp
          refine HK.out _ _ ⟨_, ?_, (Below.refl _ _).alloc (Nat.le_refl _) _, _, rfl, Box2.new _ _ _ _, hBq.size⟩
          simp only [lay, Act.put, List.setIfInBounds_toArray, List.set_cons_zero, List.set_cons_succ, List.getD_cons_zero, List.getD_cons_succ, id_eq]
      case tail =>
        intro vs wq hBq hf
        obtain ⟨xI, xS, e0, hI, hS⟩ : isM (wk.heap.size) TO TS id (vs 11) wq := hf 11 (by decide)
        simp only [id] at e0
        obtain ⟨yI, qI, rfl⟩ := hI.shape
        obtain ⟨yS, qS, rfl⟩ := hS.shape
        have e1 : vs 12 = .agg #[.bool TD, .int .i64 TV] := hf 12 (by decide)
        have e2 : vs 13 = .bool TB := hf 13 (by decide)
        obtain ⟨p0, e3, b0, n0⟩ : isB (wk.heap.size) 27 (.slice none 0 0) (.slice none 0 0) (vs 14) wq := hf 14 (by decide)
        obtain ⟨p1, e4, b1, n1⟩ : isB (wk.heap.size) 33 (.bool false) (.int .i64 0) (vs 15) wq := hf 15 (by decide)
        have hr0 : w.heap.size < wk.heap.size := HRK.out.lt
        have bR := HRK.out.later hBq
        have hB0 := HBK.out.trans (hBq.mono HBK.out.size)
        simp only [lay, Act.put, List.setIfInBounds_toArray, List.set_cons_zero, List.set_cons_succ, List.getD_cons_zero, List.getD_cons_succ, id_eq]
        rw [e0, e1, e2, e3, e4]
        clear e0 e1 e2 e3 e4
        refine any_all (rs := [16]) (by kernel_rfl) (by simp) ?_
        intro i hi
        simp only [List.mem_cons, List.not_mem_nil, or_false] at hi
        subst hi
        refine wpOp_step (o := _) rfl (fun K' hK => ?_)
        have HK := Lib.hid hK
        clear hK
        have kc0 := b0.c0
        have kc1 := b0.c1
        have kf0 := b0.f 0
        have kf1 := b0.f 1
        go_simp
        refine HK.out _ _ ?_
        clear HK K' kc0 kc1 kf0 kf1
        try simp only [Act.put, List.setIfInBounds_toArray, List.set_cons_zero, List.set_cons_succ]
        obtain ⟨wt0, hW⟩ : ∃ W, W = (wq.setCell ⟨p0, 0, none⟩ (.slice yI TO.length qI)).setCell ⟨p0, 1, none⟩ (.slice yS TS.length qS) := ⟨_, rfl⟩
        rw [← hW]
        replace b1 := (hW ▸ (b1.keep (b1.other b0 (by decide)) _ _) : Box2 wt0 _ _ _ _)
        replace bR := (hW ▸ (bR.keep (show w.heap.size ≠ p0 by omega) _ _) : Box2 wt0 _ _ _ _)
        have hB1 : Below w.heap.size w wt0 := hW ▸ below_set2 hB0 (by omega) _ _
        replace b0 := (hW ▸ (b0.set _ _) : Box2 wt0 _ _ _ _)
        clear hW
        refine any_all (rs := [17]) (by kernel_rfl) (by simp) ?_
        intro i hi
        simp only [List.mem_cons, List.not_mem_nil, or_false] at hi
        subst hi
        refine wpOp_step (o := _) rfl (fun K' hK => ?_)
        have HK := Lib.hid hK
        clear hK
        have kc0 := b1.c0
        have kc1 := b1.c1
        have kf0 := b1.f 0
        have kf1 := b1.f 1
        go_simp
        refine HK.out _ _ ?_
        clear HK K' kc0 kc1 kf0 kf1
        try simp only [Act.put, List.setIfInBounds_toArray, List.set_cons_zero, List.set_cons_succ]
        obtain ⟨wt1, hW⟩ : ∃ W, W = (wt0.setCell ⟨p1, 0, none⟩ (.bool TD)).setCell ⟨p1, 1, none⟩ (.int .i64 TV) := ⟨_, rfl⟩
        rw [← hW]
        replace b0 := (hW ▸ (b0.keep (b0.other b1 (by decide)) _ _) : Box2 wt1 _ _ _ _)
        replace bR := (hW ▸ (bR.keep (show w.heap.size ≠ p1 by omega) _ _) : Box2 wt1 _ _ _ _)
        have hB2 : Below w.heap.size w wt1 := hW ▸ below_set2 hB1 (by omega) _ _
        replace b1 := (hW ▸ (b1.set _ _) : Box2 wt1 _ _ _ _)
        clear hW
        refine any_all (rs := [18]) (by kernel_rfl) (by simp) ?_
        intro i hi
        simp only [List.mem_cons, List.not_mem_nil, or_false] at hi
        subst hi
        refine wpOp_step (o := _) rfl (fun K' hK => ?_)
        have HK := Lib.hid hK
        clear hK
        go_simp
        refine HK.out _ _ ?_
        clear HK K'
        try simp only [Act.put, List.setIfInBounds_toArray, List.set_cons_zero, List.set_cons_succ]
        refine any_done (by kernel_rfl) ?_ _
        go_wp2_with fail
        go_meet
        exact ⟨p1, rfl, rfl, b1, bR, hB2⟩
    case rest =>
      obtain ⟨p1, rfl, rfl, b1, bR, hB2⟩ := hcut
      have kc0 := b1.c0
      have kc1 := b1.c1
      have kr0 := bR.c0
      have kr1 := bR.c1
      have kf0 := bR.f 0
      have kf1 := bR.f 1
      have HB2 := Lib.hid hB2
      clear b1 bR hB2
      go_wp2_with fail
      refine bodyPost_ret (v := .tuple #[.agg #[.bool TD, .int .i64 TV], .bool TB]) (by simp [results, Try.results24, go_sem, kr0, kr1]) rfl ?_
      exact ⟨by rw [HRD.out, HRV.out, HRB.out], below_set2 HB2.out (Nat.le_refl _) _ _⟩
  · skip
    have HRD := Lib.hid (show resD L i = false by unfold resD; rw [if_neg hok])
    have HRV := Lib.hid (show resV L i = 0 by unfold resV; rw [if_neg hok])
    have HRB := Lib.hid (show resB L i = false by unfold resB; rw [if_neg hok])
    by_cases hlog : LOk L
    · rw [decide_eq_true hlog] at C1
      by_cases h0 : i < 0
      · have t1 : decide (i < 0) = true := decide_eq_true h0
        clear hok hlog h0
        go_enter Try.func24, Try.ntmps24
        go_wp2_with (go_at_call 31; refine (C1.out).mono ?_; rintro e w1 ⟨rfl, hb1⟩; have kr0 := (hR.later hb1).c0; have kr1 := (hR.later hb1).c1; have kf0 := (hR.later hb1).f 0; have kf1 := (hR.later hb1).f 1)
        refine bodyPost_ret (v := .tuple #[.agg #[.bool false, .int .i64 0], .bool false]) (by simp [results, Try.results24, go_sem, kr0, kr1]) rfl ?_
        exact ⟨by rw [HRD.out, HRV.out, HRB.out], below_set2 (HB0.out.trans (hb1.mono HB0.out.size)) (Nat.le_refl _) _ _⟩
      · have t1 : decide (i < 0) = false := decide_eq_false h0
        have t2 : decide (i ≥ (L.length : Int)) = true := decide_eq_true (by unfold resOk at hok; by_cases h : i ≥ (L.length : Int); exact h; exact absurd ⟨hlog, by omega, by omega⟩ hok)
        clear hok hlog h0
        go_enter Try.func24, Try.ntmps24
        go_wp2_with (go_at_call 31; refine (C1.out).mono ?_; rintro e w1 ⟨rfl, hb1⟩; have kr0 := (hR.later hb1).c0; have kr1 := (hR.later hb1).c1; have kf0 := (hR.later hb1).f 0; have kf1 := (hR.later hb1).f 1)
        refine bodyPost_ret (v := .tuple #[.agg #[.bool false, .int .i64 0], .bool false]) (by simp [results, Try.results24, go_sem, kr0, kr1]) rfl ?_
        exact ⟨by rw [HRD.out, HRV.out, HRB.out], below_set2 (HB0.out.trans (hb1.mono HB0.out.size)) (Nat.le_refl _) _ _⟩
    · rw [decide_eq_false hlog] at C1
      clear hok hlog
      go_enter Try.func24, Try.ntmps24
      go_wp2_with (go_at_call 31; refine (C1.out).mono ?_; rintro e w1 ⟨rfl, hb1⟩; have kr0 := (hR.later hb1).c0; have kr1 := (hR.later hb1).c1; have kf0 := (hR.later hb1).f 0; have kf1 := (hR.later hb1).f 1)
      refine bodyPost_ret (v := .tuple #[.agg #[.bool false, .int .i64 0], .bool false]) (by simp [results, Try.results24, go_sem, kr0, kr1]) rfl ?_
      exact ⟨by rw [HRD.out, HRV.out, HRB.out], below_set2 (HB0.out.trans (hb1.mono HB0.out.size)) (Nat.le_refl _) _ _⟩
theorem implResultAt (b : Nat) (v : Value) (L : List Ent) (i : Int) (w : World) (h : L.length ≤ 2097152) (o : OwnE b w v L) :
    Calls Try.prog 24 #[v, .int .i64 i] w fun e w' => e = .returned (.tuple #[.agg #[.bool (resD L i), .int .i64 (resV L i)], .bool (resB L i)]) ∧ Below w.heap.size w w' := by
  obtain ⟨a, c, rfl, hc, hm, at1, _⟩ := o.form
  exact implResultAtA a c L i w h hc hm at1
set_option maxRecDepth 100000 in
set_option maxHeartbeats 16000000 in
theorem specResultAtA (a : Option Addr) (c : Nat) (L : List Ent) (i : Int) (w : World) (hl : L.length ≤ 2097152) (hcap : L.length ≤ c) (hcm : c ≤ maxLen) (ha : AtE w a L) :
    Calls Try.prog 25 #[.slice a L.length c, .int .i64 i] w fun e w' => e = .returned (.tuple #[.agg #[.bool (resD L i), .int .i64 (resV L i)], .bool (resB L i)]) ∧ Below w.heap.size w w' := by
  have HA := Lib.hid ha
  have HB0 := Lib.hid ((Below.refl w.heap.size w).alloc (Nat.le_refl _) (.cells #[.bool false, .int .i64 0] 33))
  have hR := Box2.new w 33 (.bool false) (.int .i64 0)
  have C1 := Lib.hid (specIsLogA a c L (w.alloc (.cells #[.bool false, .int .i64 0] 33)) hl (ha.later HB0.out))
  clear ha
  by_cases hok : resOk L i
  · obtain ⟨hlog, hi0, hi1⟩ := hok
    obtain ⟨k, rfl⟩ := Int.eq_ofNat_of_zero_le hi0
    have hlt : k < L.length := by omega
    have hok : resOk L (k : Int) := ⟨hlog, hi0, hi1⟩
    obtain ⟨g, o, rfl, hg, hc⟩ := HA.out k hlt
    obtain ⟨xe, xc, xs, xk, xo, xd, xv, hx⟩ : ∃ xe xc xs xk xo xd xv, gE L k = ⟨xe, xc, xs, xk, xo, xd, xv⟩ := ⟨_, _, _, _, _, _, _, rfl⟩
    have hrD : resD L (k : Int) = appD (rep L k).1 (rep L k).2 xc xs xk xo xd xv := by unfold resD; rw [if_pos hok, Int.toNat_natCast, hx]
    have hrV : resV L (k : Int) = appV (rep L k).1 (rep L k).2 xc xs xk xo xd xv := by unfold resV; rw [if_pos hok, Int.toNat_natCast, hx]
    have hrB : resB L (k : Int) = appB (rep L k).1 (rep L k).2 xc xs xk xo xd xv := by unfold resB; rw [if_pos hok, Int.toNat_natCast, hx]
    rw [hx] at hc
    obtain ⟨hl1, hl2⟩ := rep_len L k
    have hrt := rep_take L k k (Nat.le_refl _)
    have htl : (L.take k).length = k := by rw [List.length_take]; omega
    generalize rep L k = m at *
    obtain ⟨TD, hTD⟩ : ∃ t, appD m.1 m.2 xc xs xk xo xd xv = t := ⟨_, rfl⟩
    obtain ⟨TV, hTV⟩ : ∃ t, appV m.1 m.2 xc xs xk xo xd xv = t := ⟨_, rfl⟩
    obtain ⟨TB, hTB⟩ : ∃ t, appB m.1 m.2 xc xs xk xo xd xv = t := ⟨_, rfl⟩
    obtain ⟨TO, hTO⟩ : ∃ t, appO m.1 m.2 xc xs xk xo xd xv = t := ⟨_, rfl⟩
    obtain ⟨TS, hTS⟩ : ∃ t, appS m.1 m.2 xc xs xk xo xd xv = t := ⟨_, rfl⟩
    have HTD := Lib.hid hTD
    have HTV := Lib.hid hTV
    have HTB := Lib.hid hTB
    have HTO := Lib.hid hTO
    have HTS := Lib.hid hTS
    rw [hTD] at hrD
    rw [hTV] at hrV
    rw [hTB] at hrB
    have HRD := Lib.hid hrD
    have HRV := Lib.hid hrV
    have HRB := Lib.hid hrB
    have HRT := Lib.hid hrt
    have HTL := Lib.hid htl
    have HC := Lib.hid hc
    have HLOG := Lib.hid hlog
    clear hTD hTV hTB hTO hTS hrD hrV hrB hrt htl hx hok hc
    rw [decide_eq_true hlog] at C1
    clear hlog
    have hw : IntKind.i64.wrap ((L.length : Int) - 1) = (L.length : Int) - 1 := IntWalk.i64_in _ (by omega)
    have C2 := fun W => Lib.hid (in_true (k : Int) 0 ((L.length : Int) - 1) W (by omega) (by omega))
    have R := fun W => run_uptoE W (some ⟨g, o, none⟩) L.length c k (by omega)
    go_enter Try.func25, Try.ntmps25
    go_wp2_with (first | (go_at_call 67; refine (C1.out).mono ?_; rintro e w1 ⟨rfl, hb1⟩; have HB1 := Lib.hid (HB0.out.trans (hb1.mono HB0.out.size)); have HR1 := Lib.hid (hR.later hb1); have J := specReplayLogA (some ⟨g, o, none⟩) c (L.take k) w1 (by rw [HTL.out]; omega) ((HA.out.later HB1.out).take k); unfold replayO replayS at J; rw [if_pos (HLOG.out.take k), if_pos (HLOG.out.take k), decide_eq_true (HLOG.out.take k), HTL.out, HRT.out] at J; have HJ := Lib.hid J; clear J) | (go_at_call 60; refine ((C2 _).out).mono ?_; rintro e w2 ⟨rfl, rfl⟩) | (go_at_call 27; refine HJ.out.mono ?_; rintro e w3 ⟨u1, u2, rfl, ho1, ho2, hb3⟩; obtain ⟨y1, q1, rfl⟩ := ho1.shape; obtain ⟨y2, q2, rfl⟩ := ho2.shape))
    have hbX := (Below.refl w3.heap.size w3).alloc (Nat.le_refl _) (.cells #[.slice y1 m.1.length q1, .slice y2 m.2.length q2] 27)
    have HBK := Lib.hid (HB1.out.trans ((hb3.trans (hbX.mono hb3.size)).mono HB1.out.size))
    have HRK := Lib.hid ((HR1.out.later hb3).later hbX)
    have HX := Lib.hid (Box2.new w3 27 (.slice y1 m.1.length q1) (.slice y2 m.2.length q2))
    have HO1 := Lib.hid (ho1.later hbX)
    have HO2 := Lib.hid (ho2.later hbX)
    obtain ⟨wk, hwk⟩ : ∃ W, W = w3.alloc (.cells #[.slice y1 m.1.length q1, .slice y2 m.2.length q2] 27) := ⟨_, rfl⟩
    rw [← hwk] at HBK HRK HX HO1 HO2 ⊢
    clear hwk hbX ho1 ho2 hb3 hb1 hR C1 C2 HJ HR1 HB1 R hw
    obtain ⟨c0, c1, c2, c3, c4, c5, c6⟩ := HC.out.below HBK.out hg
    have hgk : g < wk.heap.size := Nat.lt_of_lt_of_le hg HBK.out.size
    clear c0
    simp only at c1 c2 c3 c4 c5 c6
    have k3 : (0 : Int) ≤ (k : Int) := by omega
    have k5 : (k : Int) < (L.length : Int) := by omega
    go_upto_region 4 with (fail)
    go_cut [9, 10] (fun s0 s1 wx => ∃ p1 : Nat, s0 = .pointer (some ⟨p1, 0, none⟩) ∧ s1 = .bool TB ∧ Box2 wx p1 33 (.bool TD) (.int .i64 TV) ∧ Box2 wx w.heap.size 33 (.bool false) (.int .i64 0) ∧ Below w.heap.size w wx)
    case first =>
      refine region_inv (m := 13) [31, 32, 33, 34, 35, 36, 37, 30, 38, 39, 40, 8, 9] [9, 10] (Fs [isV (.agg #[.slice y1 m.1.length q1, .slice y2 m.2.length q2]), isV (.slice (some ⟨g, o, none⟩) L.length c), isV (.int .i64 (k : Int)), isV (.pointer (some ⟨g, o + k * 7, none⟩)), isV (.pointer (some ⟨g, o + k * 7 + 1, none⟩)), isV (.agg #[.int .i64 xc, .int .i64 xs, .int .i64 xk, .int .i64 xo, .int .i64 xd, .int .i64 xv]), isM (wk.heap.size) TO TS (fun mm => .tuple #[mm, .agg #[.bool TD, .int .i64 TV], .bool TB]), isM (wk.heap.size) TO TS (fun mm => .tuple #[mm, .agg #[.bool TD, .int .i64 TV], .bool TB]), isM (wk.heap.size) TO TS id, isV (.agg #[.bool TD, .int .i64 TV]), isV (.bool TB), isB (wk.heap.size) 27 (.slice none 0 0) (.slice none 0 0), isB (wk.heap.size) 33 (.bool false) (.int .i64 0)]) (by kernel_rfl) (by decide) rfl (by decide) (by kernel_rfl) (by kernel_rfl) (by kernel_rfl) (fun _ _ _ _ _ h => h) (Fs_mono ⟨isV_mono _, isV_mono _, isV_mono _, isV_mono _, isV_mono _, isV_mono _, isM_mono _ _ _ _, isM_mono _ _ _ _, isM_mono _ _ _ _, isV_mono _, isV_mono _, isB_mono _ _ _ _, isB_mono _ _ _ _, trivial⟩) ?step ?float ?tail
      case float =>
        intro f hf vs wq hd
        simp only [List.mem_cons, List.not_mem_nil, or_false] at hf
        rcases hf with rfl | rfl
        · obtain ⟨x1, x2, e7, h1, h2⟩ : (isM (wk.heap.size) TO TS (fun mm => .tuple #[mm, .agg #[.bool TD, .int .i64 TV], .bool TB])) (vs 7) wq := hd 7 (List.contains_iff_mem.1 (by kernel_rfl))
          refine ⟨_, .agg #[.bool TD, .int .i64 TV], rfl, rfl, .inl ⟨by rfl, fun w9 => ?_⟩, rfl⟩
          simp only [lay, Act.put, List.setIfInBounds_toArray, List.set_cons_zero, List.set_cons_succ, List.getD_cons_zero, List.getD_cons_succ, id_eq]
          rw [e7]
          go_simp
        · obtain ⟨x1, x2, e7, h1, h2⟩ : (isM (wk.heap.size) TO TS (fun mm => .tuple #[mm, .agg #[.bool TD, .int .i64 TV], .bool TB])) (vs 7) wq := hd 7 (List.contains_iff_mem.1 (by kernel_rfl))
          refine ⟨_, .bool TB, rfl, rfl, .inl ⟨by rfl, fun w9 => ?_⟩, rfl⟩
          simp only [lay, Act.put, List.setIfInBounds_toArray, List.set_cons_zero, List.set_cons_succ, List.getD_cons_zero, List.getD_cons_succ, id_eq]
          rw [e7]
          go_simp
      case step =>
        intro i hi vs wq hBq hd
        rcases (show i = 0 ∨ i = 1 ∨ i = 2 ∨ i = 3 ∨ i = 4 ∨ i = 5 ∨ i = 6 ∨ i = 7 ∨ i = 8 ∨ i = 9 ∨ i = 10 ∨ i = 11 ∨ i = 12 from by omega) with rfl | rfl | rfl | rfl | rfl | rfl | rfl | rfl | rfl | rfl | rfl | rfl | rfl
        · have z0 := (HX.out.later hBq).c0
          have z1 := (HX.out.later hBq).c1
          refine wpOp_step (o := _) rfl (fun K' hK => ?_)
          have HK := Lib.hid hK
          clear hK
          simp only [lay, Act.put, List.setIfInBounds_toArray, List.set_cons_zero, List.set_cons_succ, List.getD_cons_zero, List.getD_cons_succ, id_eq]
          go_simp
          refine HK.out _ _ ⟨_, ?_, Below.refl _ _, rfl⟩
          simp only [lay, Act.put, List.setIfInBounds_toArray, List.set_cons_zero, List.set_cons_succ, List.getD_cons_zero, List.getD_cons_succ, id_eq]
        · refine wpOp_step (o := _) rfl (fun K' hK => ?_)
          have HK := Lib.hid hK
          clear hK
          simp only [lay, Act.put, List.setIfInBounds_toArray, List.set_cons_zero, List.set_cons_succ, List.getD_cons_zero, List.getD_cons_succ, id_eq]
          go_simp
          refine HK.out _ _ ⟨_, ?_, Below.refl _ _, rfl⟩
          simp only [lay, Act.put, List.setIfInBounds_toArray, List.set_cons_zero, List.set_cons_succ, List.getD_cons_zero, List.getD_cons_succ, id_eq]
        · refine wpOp_step (o := _) rfl (fun K' hK => ?_)
          have HK := Lib.hid hK
          clear hK
          simp only [lay, Act.put, List.setIfInBounds_toArray, List.set_cons_zero, List.set_cons_succ, List.getD_cons_zero, List.getD_cons_succ, id_eq]
          go_simp
          refine HK.out _ _ ⟨_, ?_, Below.refl _ _, rfl⟩
          simp only [lay, Act.put, List.setIfInBounds_toArray, List.set_cons_zero, List.set_cons_succ, List.getD_cons_zero, List.getD_cons_succ, id_eq]
        · have e1 : vs 1 = .slice (some ⟨g, o, none⟩) L.length c := hd 1 (List.contains_iff_mem.1 (by kernel_rfl))
          have e2 : vs 2 = .int .i64 (k : Int) := hd 2 (List.contains_iff_mem.1 (by kernel_rfl))
          refine wpOp_step (o := _) rfl (fun K' hK => ?_)
          have HK := Lib.hid hK
          clear hK
          simp only [lay, Act.put, List.setIfInBounds_toArray, List.set_cons_zero, List.set_cons_succ, List.getD_cons_zero, List.getD_cons_succ, id_eq]
          rw [e1, e2]
          go_simp
          refine HK.out _ _ ⟨_, ?_, Below.refl _ _, rfl⟩
          simp only [lay, Act.put, List.setIfInBounds_toArray, List.set_cons_zero, List.set_cons_succ, List.getD_cons_zero, List.getD_cons_succ, id_eq]
          rw [e1, e2]
        · have e1 : vs 3 = .pointer (some ⟨g, o + k * 7, none⟩) := hd 3 (List.contains_iff_mem.1 (by kernel_rfl))
          refine wpOp_step (o := _) rfl (fun K' hK => ?_)
          have HK := Lib.hid hK
          clear hK
          simp only [lay, Act.put, List.setIfInBounds_toArray, List.set_cons_zero, List.set_cons_succ, List.getD_cons_zero, List.getD_cons_succ, id_eq]
          rw [e1]
          go_simp
          refine HK.out _ _ ⟨_, ?_, Below.refl _ _, rfl⟩
          simp only [lay, Act.put, List.setIfInBounds_toArray, List.set_cons_zero, List.set_cons_succ, List.getD_cons_zero, List.getD_cons_succ, id_eq]
          rw [e1]
        · have e1 : vs 4 = .pointer (some ⟨g, o + k * 7 + 1, none⟩) := hd 4 (List.contains_iff_mem.1 (by kernel_rfl))
          have y1 := (hBq.cell (p := ⟨g, o + k * 7 + 1, none⟩) hgk).trans c1
          have y2 := (hBq.cell (p := ⟨g, o + k * 7 + 2, none⟩) hgk).trans c2
          have y3 := (hBq.cell (p := ⟨g, o + k * 7 + 3, none⟩) hgk).trans c3
          have y4 := (hBq.cell (p := ⟨g, o + k * 7 + 4, none⟩) hgk).trans c4
          have y5 := (hBq.cell (p := ⟨g, o + k * 7 + 5, none⟩) hgk).trans c5
          have y6 := (hBq.cell (p := ⟨g, o + k * 7 + 6, none⟩) hgk).trans c6
          refine wpOp_step (o := _) rfl (fun K' hK => ?_)
          have HK := Lib.hid hK
          clear hK
          simp only [lay, Act.put, List.setIfInBounds_toArray, List.set_cons_zero, List.set_cons_succ, List.getD_cons_zero, List.getD_cons_succ, id_eq]
          rw [e1]
          go_simp
          refine HK.out _ _ ⟨_, ?_, Below.refl _ _, rfl⟩
          simp only [lay, Act.put, List.setIfInBounds_toArray, List.set_cons_zero, List.set_cons_succ, List.getD_cons_zero, List.getD_cons_succ, id_eq]
          rw [e1]
        · have e0 : vs 0 = .agg #[.slice y1 m.1.length q1, .slice y2 m.2.length q2] := hd 0 (List.contains_iff_mem.1 (by kernel_rfl))
          have e5 : vs 5 = .agg #[.int .i64 xc, .int .i64 xs, .int .i64 xk, .int .i64 xo, .int .i64 xd, .int .i64 xv] := hd 5 (List.contains_iff_mem.1 (by kernel_rfl))
          refine wpOp_step (o := _) rfl (fun K' hK => ?_)
          have HK := Lib.hid hK
          clear hK
          simp only [lay, Act.put, List.setIfInBounds_toArray, List.set_cons_zero, List.set_cons_succ, List.getD_cons_zero, List.getD_cons_succ, id_eq]
          rw [e0, e5]
          go_simp
          go_at_call 12
          refine (specApplyOp _ _ _ _ m.1 m.2 xc xs xk xo xd xv wq hl1 hl2 (HO1.out.later hBq) (HO2.out.later hBq)).mono ?_
          rintro e w2 ⟨x1, x2, he, h1, h2, hb⟩
          rw [HTO.out] at h1
          rw [HTS.out] at h2
          rw [HTD.out, HTV.out, HTB.out] at he
          subst he
          refine HK.out _ _ ⟨_, ?_, hb, x1, x2, rfl, h1.mono hBq.size, h2.mono hBq.size⟩
          simp only [lay, Act.put, List.setIfInBounds_toArray, List.set_cons_zero, List.set_cons_succ, List.getD_cons_zero, List.getD_cons_succ, id_eq]
          rw [e0, e5]
        · have f6 : (isM (wk.heap.size) TO TS (fun mm => .tuple #[mm, .agg #[.bool TD, .int .i64 TV], .bool TB])) (vs 6) wq := hd 6 (List.contains_iff_mem.1 (by kernel_rfl))
          refine wpOp_step (o := _) rfl (fun K' hK => ?_)
          have HK := Lib.hid hK
          clear hK
          simp only [lay, Act.put, List.setIfInBounds_toArray, List.set_cons_zero, List.set_cons_succ, List.getD_cons_zero, List.getD_cons_succ, id_eq]
          go_simp
          refine HK.out _ _ ⟨_, ?_, Below.refl _ _, f6⟩
          simp only [lay, Act.put, List.setIfInBounds_toArray, List.set_cons_zero, List.set_cons_succ, List.getD_cons_zero, List.getD_cons_succ, id_eq]
        · obtain ⟨x1, x2, e7, h1, h2⟩ : (isM (wk.heap.size) TO TS (fun mm => .tuple #[mm, .agg #[.bool TD, .int .i64 TV], .bool TB])) (vs 7) wq := hd 7 (List.contains_iff_mem.1 (by kernel_rfl))
          refine wpOp_step (o := _) rfl (fun K' hK => ?_)
          have HK := Lib.hid hK
          clear hK
          simp only [lay, Act.put, List.setIfInBounds_toArray, List.set_cons_zero, List.set_cons_succ, List.getD_cons_zero, List.getD_cons_succ, id_eq]
          rw [e7]
          go_simp
          refine HK.out _ _ ⟨_, ?_, Below.refl _ _, x1, x2, rfl, h1, h2⟩
          simp only [lay, Act.put, List.setIfInBounds_toArray, List.set_cons_zero, List.set_cons_succ, List.getD_cons_zero, List.getD_cons_succ, id_eq]
          rw [e7]
        · obtain ⟨x1, x2, e7, h1, h2⟩ : (isM (wk.heap.size) TO TS (fun mm => .tuple #[mm, .agg #[.bool TD, .int .i64 TV], .bool TB])) (vs 7) wq := hd 7 (List.contains_iff_mem.1 (by kernel_rfl))
          refine wpOp_step (o := _) rfl (fun K' hK => ?_)
          have HK := Lib.hid hK
          clear hK
          simp only [lay, Act.put, List.setIfInBounds_toArray, List.set_cons_zero, List.set_cons_succ, List.getD_cons_zero, List.getD_cons_succ, id_eq]
          rw [e7]
          go_simp
          refine HK.out _ _ ⟨_, ?_, Below.refl _ _, rfl⟩
          simp only [lay, Act.put, List.setIfInBounds_toArray, List.set_cons_zero, List.set_cons_succ, List.getD_cons_zero, List.getD_cons_succ, id_eq]
          rw [e7]
        · obtain ⟨x1, x2, e7, h1, h2⟩ : (isM (wk.heap.size) TO TS (fun mm => .tuple #[mm, .agg #[.bool TD, .int .i64 TV], .bool TB])) (vs 7) wq := hd 7 (List.contains_iff_mem.1 (by kernel_rfl))
          refine wpOp_step (o := _) rfl (fun K' hK => ?_)
          have HK := Lib.hid hK
          clear hK
          simp only [lay, Act.put, List.setIfInBounds_toArray, List.set_cons_zero, List.set_cons_succ, List.getD_cons_zero, List.getD_cons_succ, id_eq]
          rw [e7]
          go_simp
          refine HK.out _ _ ⟨_, ?_, Below.refl _ _, rfl⟩
          simp only [lay, Act.put, List.setIfInBounds_toArray, List.set_cons_zero, List.set_cons_succ, List.getD_cons_zero, List.getD_cons_succ, id_eq]
          rw [e7]
        · refine wpOp_step (o := _) rfl (fun K' hK => ?_)
          have HK := Lib.hid hK
          clear hK
          simp only [lay, Act.put, List.setIfInBounds_toArray, List.set_cons_zero, List.set_cons_succ, List.getD_cons_zero, List.getD_cons_succ, id_eq]
          go_simp
          refine HK.out _ _ ⟨_, ?_, (Below.refl _ _).alloc (Nat.le_refl _) _, _, rfl, Box2.new _ _ _ _, hBq.size⟩
          simp only [lay, Act.put, List.setIfInBounds_toArray, List.set_cons_zero, List.set_cons_succ, List.getD_cons_zero, List.getD_cons_succ, id_eq]
        · refine wpOp_step (o := _) rfl (fun K' hK => ?_)
          have HK := Lib.hid hK
          clear hK
          simp only [lay, Act.put, List.setIfInBounds_toArray, List.set_cons_zero, List.set_cons_succ, List.getD_cons_zero, List.getD_cons_succ, id_eq]
          go_simp
          refine HK.out _ _ ⟨_, ?_, (Below.refl _ _).alloc (Nat.le_refl _) _, _, rfl, Box2.new _ _ _ _, hBq.size⟩
          simp only [lay, Act.put, List.setIfInBounds_toArray, List.set_cons_zero, List.set_cons_succ, List.getD_cons_zero, List.getD_cons_succ, id_eq]
      case tail =>
        intro vs wq hBq hf
        obtain ⟨xI, xS, e0, hI, hS⟩ : isM (wk.heap.size) TO TS id (vs 8) wq := hf 8 (by decide)
        simp only [id] at e0
        obtain ⟨yI, qI, rfl⟩ := hI.shape
        obtain ⟨yS, qS, rfl⟩ := hS.shape
        have e1 : vs 9 = .agg #[.bool TD, .int .i64 TV] := hf 9 (by decide)
        have e2 : vs 10 = .bool TB := hf 10 (by decide)
        obtain ⟨p0, e3, b0, n0⟩ : isB (wk.heap.size) 27 (.slice none 0 0) (.slice none 0 0) (vs 11) wq := hf 11 (by decide)
        obtain ⟨p1, e4, b1, n1⟩ : isB (wk.heap.size) 33 (.bool false) (.int .i64 0) (vs 12) wq := hf 12 (by decide)
        have hr0 : w.heap.size < wk.heap.size := HRK.out.lt
        have bR := HRK.out.later hBq
        have hB0 := HBK.out.trans (hBq.mono HBK.out.size)
        simp only [lay, Act.put, List.setIfInBounds_toArray, List.set_cons_zero, List.set_cons_succ, List.getD_cons_zero, List.getD_cons_succ, id_eq]
        rw [e0, e1, e2, e3, e4]
        clear e0 e1 e2 e3 e4
        refine any_all (rs := [13]) (by kernel_rfl) (by simp) ?_
        intro i hi
        simp only [List.mem_cons, List.not_mem_nil, or_false] at hi
        subst hi
        refine wpOp_step (o := _) rfl (fun K' hK => ?_)
        have HK := Lib.hid hK
        clear hK
        have kc0 := b0.c0
        have kc1 := b0.c1
        have kf0 := b0.f 0
        have kf1 := b0.f 1
        go_simp
        refine HK.out _ _ ?_
        clear HK K' kc0 kc1 kf0 kf1
        try simp only [Act.put, List.setIfInBounds_toArray, List.set_cons_zero, List.set_cons_succ]
        obtain ⟨wt0, hW⟩ : ∃ W, W = (wq.setCell ⟨p0, 0, none⟩ (.slice yI TO.length qI)).setCell ⟨p0, 1, none⟩ (.slice yS TS.length qS) := ⟨_, rfl⟩
        rw [← hW]
        replace b1 := (hW ▸ (b1.keep (b1.other b0 (by decide)) _ _) : Box2 wt0 _ _ _ _)
        replace bR := (hW ▸ (bR.keep (show w.heap.size ≠ p0 by omega) _ _) : Box2 wt0 _ _ _ _)
        have hB1 : Below w.heap.size w wt0 := hW ▸ below_set2 hB0 (by omega) _ _
        replace b0 := (hW ▸ (b0.set _ _) : Box2 wt0 _ _ _ _)
        clear hW
        refine any_all (rs := [14]) (by kernel_rfl) (by simp) ?_
        intro i hi
        simp only [List.mem_cons, List.not_mem_nil, or_false] at hi
        subst hi
        refine wpOp_step (o := _) rfl (fun K' hK => ?_)
        have HK := Lib.hid hK
        clear hK
        have kc0 := b1.c0
        have kc1 := b1.c1
        have kf0 := b1.f 0
        have kf1 := b1.f 1
        go_simp
        refine HK.out _ _ ?_
        clear HK K' kc0 kc1 kf0 kf1
        try simp only [Act.put, List.setIfInBounds_toArray, List.set_cons_zero, List.set_cons_succ]
        obtain ⟨wt1, hW⟩ : ∃ W, W = (wt0.setCell ⟨p1, 0, none⟩ (.bool TD)).setCell ⟨p1, 1, none⟩ (.int .i64 TV) := ⟨_, rfl⟩
        rw [← hW]
        replace b0 := (hW ▸ (b0.keep (b0.other b1 (by decide)) _ _) : Box2 wt1 _ _ _ _)
        replace bR := (hW ▸ (bR.keep (show w.heap.size ≠ p1 by omega) _ _) : Box2 wt1 _ _ _ _)
        have hB2 : Below w.heap.size w wt1 := hW ▸ below_set2 hB1 (by omega) _ _
        replace b1 := (hW ▸ (b1.set _ _) : Box2 wt1 _ _ _ _)
        clear hW
        refine any_all (rs := [15]) (by kernel_rfl) (by simp) ?_
        intro i hi
        simp only [List.mem_cons, List.not_mem_nil, or_false] at hi
        subst hi
        refine wpOp_step (o := _) rfl (fun K' hK => ?_)
        have HK := Lib.hid hK
        clear hK
        go_simp
        refine HK.out _ _ ?_
        clear HK K'
        try simp only [Act.put, List.setIfInBounds_toArray, List.set_cons_zero, List.set_cons_succ]
        refine any_done (by kernel_rfl) ?_ _
        go_wp2_with fail
        go_meet
        exact ⟨p1, rfl, rfl, b1, bR, hB2⟩
    case rest =>
      obtain ⟨p1, rfl, rfl, b1, bR, hB2⟩ := hcut
      have kc0 := b1.c0
      have kc1 := b1.c1
      have kr0 := bR.c0
      have kr1 := bR.c1
      have kf0 := bR.f 0
      have kf1 := bR.f 1
      have HB2 := Lib.hid hB2
      clear b1 bR hB2
      go_wp2_with fail
      refine bodyPost_ret (v := .tuple #[.agg #[.bool TD, .int .i64 TV], .bool TB]) (by simp [results, Try.results25, go_sem, kr0, kr1]) rfl ?_
      exact ⟨by rw [HRD.out, HRV.out, HRB.out], below_set2 HB2.out (Nat.le_refl _) _ _⟩
  · skip
    have HRD := Lib.hid (show resD L i = false by unfold resD; rw [if_neg hok])
    have HRV := Lib.hid (show resV L i = 0 by unfold resV; rw [if_neg hok])
    have HRB := Lib.hid (show resB L i = false by unfold resB; rw [if_neg hok])
    by_cases hlog : LOk L
    · rw [decide_eq_true hlog] at C1
      have hw : IntKind.i64.wrap ((L.length : Int) - 1) = (L.length : Int) - 1 := IntWalk.i64_in _ (by omega)
      have C2 := fun W => Lib.hid (in_false i 0 ((L.length : Int) - 1) W (by unfold resOk at hok; by_cases h : i < 0; exact .inl h; by_cases h2 : (L.length : Int) - 1 < i; exact .inr h2; exact absurd ⟨hlog, by omega, by omega⟩ hok))
      clear hok hlog
      go_enter Try.func25, Try.ntmps25
      go_wp2_with (first | (go_at_call 67; refine (C1.out).mono ?_; rintro e w1 ⟨rfl, hb1⟩; have kr0 := (hR.later hb1).c0; have kr1 := (hR.later hb1).c1; have kf0 := (hR.later hb1).f 0; have kf1 := (hR.later hb1).f 1) | (go_at_call 60; refine ((C2 _).out).mono ?_; rintro e w2 ⟨rfl, rfl⟩))
      refine bodyPost_ret (v := .tuple #[.agg #[.bool false, .int .i64 0], .bool false]) (by simp [results, Try.results25, go_sem, kr0, kr1]) rfl ?_
      exact ⟨by rw [HRD.out, HRV.out, HRB.out], below_set2 (HB0.out.trans (hb1.mono HB0.out.size)) (Nat.le_refl _) _ _⟩
    · rw [decide_eq_false hlog] at C1
      clear hok hlog
      go_enter Try.func25, Try.ntmps25
      go_wp2_with (go_at_call 67; refine (C1.out).mono ?_; rintro e w1 ⟨rfl, hb1⟩; have kr0 := (hR.later hb1).c0; have kr1 := (hR.later hb1).c1; have kf0 := (hR.later hb1).f 0; have kf1 := (hR.later hb1).f 1)
      refine bodyPost_ret (v := .tuple #[.agg #[.bool false, .int .i64 0], .bool false]) (by simp [results, Try.results25, go_sem, kr0, kr1]) rfl ?_
      exact ⟨by rw [HRD.out, HRV.out, HRB.out], below_set2 (HB0.out.trans (hb1.mono HB0.out.size)) (Nat.le_refl _) _ _⟩
theorem specResultAt (b : Nat) (v : Value) (L : List Ent) (i : Int) (w : World) (h : L.length ≤ 2097152) (o : OwnE b w v L) :
    Calls Try.prog 25 #[v, .int .i64 i] w fun e w' => e = .returned (.tuple #[.agg #[.bool (resD L i), .int .i64 (resV L i)], .bool (resB L i)]) ∧ Below w.heap.size w w' := by
  obtain ⟨a, c, rfl, hc, hm, at1, _⟩ := o.form
  exact specResultAtA a c L i w h hc hm at1
end Go.Proofs.Ytbnepdecfnhgoaa.kit
