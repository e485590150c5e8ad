/-
  Chapter 6: the digests of a log's prefixes; what spec's DigestList, DigestOf and ProvesPrefix return.
-/
import Derived.Test.YtbnepdecfnhgoaaDoorS5Fmt
import Derived.Test.YtbnepdecfnhgoaaDoorS6Sum
namespace Go.Proofs.YtbnepdecfnhgoaaDoor.kit
open Go.ChangeShapes Go.WideShapes Go.ChangeAt Go.RowKit
set_option linter.unusedVariables false

/-- the digest of the first k entries -/
def dg (L : List Ent) : Nat → Int
  | 0 => 11
  | k + 1 => (dg L k * 31 + cksum (fmtL [gE L k])) % 9973
theorem dg_in (L : List Ent) : ∀ k, 0 ≤ dg L k ∧ dg L k < 9973
  | 0 => ⟨by show (0 : Int) ≤ 11; decide, by show (11 : Int) < 9973; decide⟩
  | k + 1 => ⟨Int.emod_nonneg _ (by omega), Int.emod_lt_of_pos _ (by omega)⟩
def dgs (L : List Ent) (n : Nat) : List Int := (List.range n).map (dg L)
theorem dgs_succ (L : List Ent) (n : Nat) : dgs L (n + 1) = dgs L n ++ [dg L n] := by simp [dgs, List.range_succ]
theorem dgs_len (L : List Ent) (n : Nat) : (dgs L n).length = n := by simp [dgs]
theorem dgs_get (L : List Ent) (n k : Nat) (h : k < n) : (dgs L n).getD k 0 = dg L k := by simp [dgs, List.getD, h]
def digL (L : List Ent) : List Int := if LOk L then dgs L (L.length + 1) else []
theorem digL_len (L : List Ent) : (digL L).length ≤ 4194304 := by
  unfold digL
  by_cases h : LOk L
  · rw [if_pos h, dgs_len]; have := h.2; omega
  · rw [if_neg h]; simp
def digO (L : List Ent) (n : Int) : Int := if LOk L ∧ 0 ≤ n ∧ n ≤ L.length then dg L n.toNat else -1
def provesP (L : List Ent) (n d : Int) : Bool := decide (0 ≤ d) && (digO L n == d)
theorem fmtL_len (L : List Ent) : (fmtL L).length ≤ 5000 := by
  unfold fmtL
  by_cases h : LOk L
  · rw [if_pos h]
    by_cases h0 : L.length = 0
    · rw [if_pos h0]; decide
    · rw [if_neg h0]; have := joinTo_len h L.length (Nat.le_refl _); have := h.2; omega
  · rw [if_neg h]; simp
theorem add_mkE (g o k : Nat) : (⟨g, o, none⟩ : Addr).add k = ⟨g, o + k, none⟩ := by unfold Addr.add; split <;> simp_all
/-- the k-th entry alone, as a slice of the list's row -/
theorem AtE.one {w : World} {a : Option Addr} {L : List Ent} (h : AtE w a L) {k : Nat} (hk : k < L.length) : AtE w (a.map (·.add (k * 7))) [gE L k] := fun j hj => by
  obtain rfl : j = 0 := by simpa using hj
  obtain ⟨g, o, rfl, hg, hc⟩ := h k hk
  refine ⟨g, o + k * 7, by rw [Option.map_some, add_mkE], hg, ?_⟩
  rw [Nat.zero_mul, Nat.add_zero]
  exact hc
set_option maxRecDepth 100000 in
theorem run_oneE (W : World) (a : Option Addr) (n cap k : Nat) (hk : k + 1 ≤ cap) : (Instr.slice 24 (.slice a n cap) (some (.int .i64 (k : Int))) (some (.int .i64 ((k : Int) + 1))) none).run Tryd.prog W = .ok (.slice (a.map (·.add (k * 7))) 1 (cap - k)) W := by
  rw [run_slice_lh (P := Tryd.prog) W 24 a n cap (by kernel_rfl) .i64 .i64 (k : Int) ((k : Int) + 1) (by omega) (by omega) (by omega)]
  have hs : (sizeOf (Tryd.prog.elem 24)).run Tryd.prog W = .ok 7 W := by kernel_rfl
  rw [hs]
  show Result.ok (sliced a k ((k : Int) + 1).toNat cap 7) W = _
  rw [show ((k : Int) + 1).toNat = k + 1 by omega]
  unfold sliced
  rw [if_neg (by omega)]
  congr 2
  omega
theorem specChecksumL (l : List UInt8) (w : World) (h : l.length ≤ 1048576) : Calls Tryd.prog 42 #[str l] w fun e w' => e = .returned (.int .i64 (cksum l)) ∧ Below w.heap.size w w' := by
  have := specChecksum ⟨l.toArray⟩ w (by simpa [ByteArray.size] using h)
  simpa using this
theorem implChecksumL (l : List UInt8) (w : World) (h : l.length ≤ 1048576) : Calls Tryd.prog 74 #[str l] w fun e w' => e = .returned (.int .i64 (cksum l)) ∧ Below w.heap.size w w' := by
  have := implChecksum ⟨l.toArray⟩ w (by simpa [ByteArray.size] using h)
  simpa using this
theorem specOneE (a : Option Addr) (c k : Nat) (L : List Ent) (w : World) (ha : AtE w a L) (hk : k < L.length) :
    Calls Tryd.prog 29 #[.slice (a.map (·.add (k * 7))) 1 (c - k)] w fun e w' => e = .returned (str (fmtL [gE L k])) ∧ Below w.heap.size w w' :=
  specFormatLogA _ _ [gE L k] w (by simp) (ha.one hk)
theorem implOneE (a : Option Addr) (c k : Nat) (L : List Ent) (w : World) (ha : AtE w a L) (hk : k < L.length) (hT : Tab w) :
    Calls Tryd.prog 31 #[.slice (a.map (·.add (k * 7))) 1 (c - k)] w fun e w' => e = .returned (str (fmtL [gE L k])) ∧ Below w.heap.size w w' :=
  implFormatLogA _ _ [gE L k] w (by simp) (ha.one hk) hT
set_option maxRecDepth 100000 in
set_option maxHeartbeats 4000000 in
theorem specDigestListA (a : Option Addr) (c : Nat) (L : List Ent) (w : World) (hl : L.length ≤ 2097152) (hcap : L.length ≤ c) (ha : AtE w a L) :
    Calls Tryd.prog 13 #[.slice a L.length c] w fun e w' => ∃ v, e = .returned v ∧ OwnI w.heap.size w' v (digL L) ∧ Below w.heap.size w w' := by
  have HA := Lib.hid ha
  have HB0 := Lib.hid ((Below.refl w.heap.size w).alloc (Nat.le_refl _) (.cells #[] 3))
  have C1 := Lib.hid (specIsLogA a c L (w.alloc (.cells #[] 3)) hl (ha.later HB0.out))
  have HO0 := Lib.hid (show OwnI w.heap.size (w.alloc (.cells #[] 3)) (.slice (some ⟨w.heap.size, 0, none⟩) 0 0) [] from World.ownsRow_lit w #[] 0 (Nat.le_refl _) (Nat.zero_le _) rfl)
  clear ha
  by_cases he : LOk L
  · have HF := Lib.hid (show digL L = dgs L (L.length + 1) by unfold digL; rw [if_pos he])
    rw [decide_eq_true he] at C1
    clear he
    go_enter Tryd.func13, Tryd.ntmps13
    go_wp2_with (first
      | (go_at_call 17; refine (C1.out).mono ?_; rintro e w1 ⟨rfl, hb1⟩; have HB1 := Lib.hid (HB0.out.trans (hb1.mono HB0.out.size)); have HO1 := Lib.hid (HO0.out.later hb1); have hz1 := HB1.out.size)
      | (at_builtin; refine wpList_push1 rfl _ _ 27 rfl w.heap.size 3 (.int .i64 0) 8 Tryd.underlying27 infoI rfl _ _ _ rfl HO1.out.row _ 1 rfl (by rfl) (by simp) (by omega) hz1 ?_; intro v' w2 hown' hb2 hg2))
    have HO2 := Lib.hid (show OwnI w.heap.size w2 v' (dgs L 1) from hown')
    have HB2 := Lib.hid (HB1.out.trans hb2)
    clear hown' hb2 hg2 HO1 HB1 hz1 hb1 C1 HO0 HB0
    go_loopw [3, 4, 5] (fun u d i wr => ∃ k : Nat, k ≤ L.length ∧ i = .int .i64 k ∧ d = .int .i64 (dg L k) ∧ Hid (OwnI w.heap.size wr u (dgs L (k + 1))) ∧ Hid (Below w.heap.size w wr)) (fun _ _ i _ => L.length - (intOf i).toNat)
    case atStart => exact ⟨0, Nat.zero_le _, rfl, rfl, HO2, HB2⟩
    case round =>
      obtain ⟨k, hk, rfl, rfl, HO, HB⟩ := hrel
      by_cases hlt : k < L.length
      · have hd := dg_in L k
        have HS := Lib.hid (dgs_succ L (k + 1))
        have HD := Lib.hid (show dg L (k + 1) = (dg L k * 31 + cksum (fmtL [gE L k])) % 9973 from rfl)
        have HN := Lib.hid (dgs_len L (k + 1))
        have R := fun W => run_oneE W a L.length c k (by omega)
        have J1 := Lib.hid (specOneE a c k L wr (HA.out.later HB.out) hlt)
        have J2 := fun W => Lib.hid (specChecksumL (fmtL [gE L k]) W (by have := fmtL_len [gE L k]; omega))
        have hc := cksum_in (fmtL [gE L k])
        generalize cksum (fmtL [gE L k]) = cs at *
        generalize fmtL [gE L k] = fl at *
        generalize dg L k = d at *
        generalize dgs L (k + 1) = D at *
        have hw1 : IntKind.i64.wrap (d * 31) = d * 31 := IntWalk.i64_in _ (by omega)
        have hw2 : IntKind.i64.wrap (d * 31 + cs) = d * 31 + cs := IntWalk.i64_in _ (by omega)
        have hw3 : (d * 31 + cs).tmod 9973 = (d * 31 + cs) % 9973 := Int.tmod_eq_emod_of_nonneg (by omega)
        have hw4 : IntKind.i64.wrap ((d * 31 + cs) % 9973) = (d * 31 + cs) % 9973 := IntWalk.i64_in _ (by have := Int.emod_nonneg (d * 31 + cs) (show (9973 : Int) ≠ 0 by decide); have := Int.emod_lt_of_pos (d * 31 + cs) (show (0 : Int) < 9973 by decide); omega)
        have hw5 : IntKind.i64.wrap ((k : Int) + 1) = (k : Int) + 1 := IntWalk.i64_in _ (by omega)
        have hz := HB.out.size
        go_wp2_with (first
          | (go_at_call 29; refine (J1.out).mono ?_; rintro e w2 ⟨rfl, hb2⟩; have hz2 := Nat.le_trans hz hb2.size; have HO2 := Lib.hid (HO.out.later hb2))
          | (go_at_call 42; refine ((J2 _).out).mono ?_; rintro e w3 ⟨rfl, hb3⟩; have hz3 := Nat.le_trans hz2 hb3.size; have HO3 := Lib.hid (HO2.out.later hb3))
          | (at_builtin; refine wpList_push1 rfl _ _ 27 rfl w.heap.size 3 (.int .i64 0) 8 Tryd.underlying27 infoI rfl _ _ _ rfl HO3.out.row _ 1 rfl (by rfl) (by rw [HN.out]; omega) (by omega) hz3 ?_; intro v' w4 hown' hb4 hg4))
        go_roundw
        case rel => exact ⟨k + 1, by omega, by go_num, by rw [HD.out], Lib.hid (by rw [HS.out, HD.out]; exact OwnI.snoc hown'), Lib.hid (HB.out.trans ((hb2.mono hz).trans ((hb3.mono hz2).trans hb4)))⟩
        case measure => simp [intOf]; omega
      · obtain rfl : k = L.length := by omega
        clear hlt hk
        go_wp2_with fail
        go_ret
        exact ⟨_, rfl, by rw [HF.out]; exact HO.out, HB.out⟩
  · have HF := Lib.hid (show digL L = [] by unfold digL; rw [if_neg he])
    rw [decide_eq_false he] at C1
    clear he
    go_enter Tryd.func13, Tryd.ntmps13
    go_wp2_with (go_at_call 17; refine (C1.out).mono ?_; rintro e w1 ⟨rfl, hb1⟩)
    go_ret
    exact ⟨_, rfl, by rw [HF.out]; exact HO0.out.later hb1, HB0.out.trans (hb1.mono HB0.out.size)⟩
theorem specDigestList (b : Nat) (v : Value) (L : List Ent) (w : World) (h : L.length ≤ 2097152) (o : OwnE b w v L) :
    Calls Tryd.prog 13 #[v] w fun e w' => ∃ v, e = .returned v ∧ OwnI w.heap.size w' v (digL L) ∧ Below w.heap.size w w' := by
  obtain ⟨a, c, rfl, hc, _, at1, _⟩ := o.form
  exact specDigestListA a c L w h hc at1
theorem digO_yes {L : List Ent} {n : Int} (h : 0 ≤ n ∧ n ≤ ((digL L).length : Int) - 1) : digO L n = (digL L).getD n.toNat 0 ∧ n.toNat < (digL L).length := by
  unfold digO
  unfold digL at h ⊢
  by_cases hL : LOk L
  · rw [if_pos hL, dgs_len] at h
    rw [if_pos hL, if_pos ⟨hL, by omega, by omega⟩, dgs_get L _ _ (by omega), dgs_len]
    exact ⟨rfl, by omega⟩
  · rw [if_neg hL] at h
    simp at h; omega
theorem digO_no {L : List Ent} {n : Int} (h : ¬ (0 ≤ n ∧ n ≤ ((digL L).length : Int) - 1)) : digO L n = -1 := by
  unfold digO
  refine if_neg fun hh => h ?_
  unfold digL
  rw [if_pos hh.1, dgs_len]
  omega
set_option maxRecDepth 100000 in
set_option maxHeartbeats 4000000 in
theorem specDigestOfA (a : Option Addr) (c : Nat) (L : List Ent) (n : Int) (w : World) (hl : L.length ≤ 2097152) (hcap : L.length ≤ c) (ha : AtE w a L) :
    Calls Tryd.prog 22 #[.slice a L.length c, .int .i64 n] w fun e w' => e = .returned (.int .i64 (digO L n)) ∧ Below w.heap.size w w' := by
  have C1 := Lib.hid (specDigestListA a c L w hl hcap ha)
  have hlen := digL_len L
  clear ha
  by_cases hin : 0 ≤ n ∧ n ≤ ((digL L).length : Int) - 1
  · obtain ⟨h1, h2⟩ := digO_yes hin
    have HF := Lib.hid h1
    clear h1
    generalize digL L = D at *
    generalize hzD : D.getD n.toNat 0 = z at HF
    have HZ := Lib.hid hzD
    clear hzD
    have C2 := fun W => Lib.hid (in_true n 0 ((D.length : Int) - 1) W hin.1 hin.2)
    have hw : IntKind.i64.wrap ((D.length : Int) - 1) = (D.length : Int) - 1 := IntWalk.i64_in _ (by omega)
    go_enter Tryd.func22, Tryd.ntmps22
    have k3 := hin.1
    have k5 : n < (D.length : Int) := by omega
    clear hin
    go_wp2_with (first
      | (go_at_call 13; refine (C1.out).mono ?_; rintro e w1 ⟨v, rfl, ho, hb1⟩; obtain ⟨y, q, rfl, _, _, hat, _⟩ := ho.form; obtain ⟨x, rfl, hx, hc⟩ := hat n.toNat h2; rw [HZ.out] at hc; clear hat ho)
      | (go_at_call 43; refine ((C2 _).out).mono ?_; rintro e w2 ⟨rfl, rfl⟩))
    go_ret
    exact ⟨by rw [HF.out]; rfl, hb1⟩
  · have HF := Lib.hid (digO_no hin)
    generalize digL L = D at *
    have C2 := fun W => Lib.hid (in_false n 0 ((D.length : Int) - 1) W (by omega))
    have hw : IntKind.i64.wrap ((D.length : Int) - 1) = (D.length : Int) - 1 := IntWalk.i64_in _ (by omega)
    clear hin
    go_enter Tryd.func22, Tryd.ntmps22
    go_wp2_with (first
      | (go_at_call 13; refine (C1.out).mono ?_; rintro e w1 ⟨v, rfl, ho, hb1⟩; obtain ⟨y, q, rfl, -, -, -, -⟩ := ho.form; clear ho)
      | (go_at_call 43; refine ((C2 _).out).mono ?_; rintro e w2 ⟨rfl, rfl⟩))
    go_ret
    exact ⟨by rw [HF.out]; rfl, hb1⟩
theorem specDigestOf (b : Nat) (v : Value) (L : List Ent) (n : Int) (w : World) (h : L.length ≤ 2097152) (o : OwnE b w v L) :
    Calls Tryd.prog 22 #[v, .int .i64 n] w fun e w' => e = .returned (.int .i64 (digO L n)) ∧ Below w.heap.size w w' := by
  obtain ⟨a, c, rfl, hc, _, at1, _⟩ := o.form
  exact specDigestOfA a c L n w h hc at1
end Go.Proofs.YtbnepdecfnhgoaaDoor.kit
