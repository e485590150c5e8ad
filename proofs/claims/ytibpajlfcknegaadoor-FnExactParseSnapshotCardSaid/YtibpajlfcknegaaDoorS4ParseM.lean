/-
  Chapter 4: how impl's ParseMachine reads the objects.
-/
import Derived.Test.YtibpajlfcknegaaDoorS4ParseI
import Derived.Test.YtibpajlfcknegaaDoorS4Math
import Derived.Test.YtibpajlfcknegaaDoorC1DecHexImpl
import Derived.Test.YtibpajlfcknegaaDoorS4Valid
import Derived.Test.YtibpajlfcknegaaDoorS4Rows
import Derived.Test.YtibpajlfcknegaaDoorBoxC
namespace Go.Proofs.YtibpajlfcknegaaDoor.kit
open Go.ChangeShapes Go.WideShapes Go.ChangeAt Go.RowKit
set_option linter.unusedVariables false
set_option linter.unusedSimpArgs false

/-- some object is out of its range -/
def wild (O : List Int) : Prop := ∃ j, j < O.length ∧ okV (O.getD j 0) = false
theorem wild_no {O : List Int} (h : wild O) : ∀ L2, ¬ MOk O L2 := fun L2 hm => by
  obtain ⟨j, hj, hv⟩ := h
  have := hm.2.1 j hj
  rw [hv] at this
  cases this
theorem wild_snoc {O : List Int} (h : wild O) (x : Int) : wild (O ++ [x]) := by
  obtain ⟨j, hj, hv⟩ := h
  refine ⟨j, by simp; omega, ?_⟩
  have e : (O ++ [x]).getD j 0 = O.getD j 0 := by simp [List.getD, List.getElem?_append_left hj]
  rw [e]; exact hv
theorem wild_new (O : List Int) {x : Int} (h : okV x = false) : wild (O ++ [x]) := by
  refine ⟨O.length, by simp, ?_⟩
  have e : (O ++ [x]).getD O.length 0 = x := by simp [List.getD]
  rw [e]; exact h
/-- what has been read of the objects -/
def objR (p : List UInt8) (k : Nat) (O : List Int) : Prop := O.length ≤ k ∧ ((wild O ∧ ∃ b ∈ p, isDig b = false) ∨ O = (p.take k).map digV)
theorem objR_one {s : ByteArray} {k : Nat} (h : k < s.size) {O : List Int} (hr : objR s.data.toList k O) : objR s.data.toList (k + 1) (O ++ [(s[k].toNat : Int) - 48]) := by
  obtain ⟨hl, hr⟩ := hr
  refine ⟨by simp; omega, ?_⟩
  rcases hr with ⟨h1, h2⟩ | h1
  · exact .inl ⟨wild_snoc h1 _, h2⟩
  · right
    have hl' : k < s.data.toList.length := by rw [Array.length_toList]; exact h
    rw [List.take_succ_eq_append_getElem hl', List.map_append, h1]
    rfl
theorem objR_wide {s : ByteArray} {k n : Nat} (h : k < s.size) (hn : 1 ≤ n) (hb : 128 ≤ s[k].toNat) {r : Int} (hr128 : 128 ≤ r) {O : List Int} (hr : objR s.data.toList k O) : objR s.data.toList (k + n) (O ++ [r - 48]) := by
  obtain ⟨hl, hr⟩ := hr
  have hl' : k < s.data.toList.length := by rw [Array.length_toList]; exact h
  refine ⟨by simp; omega, .inl ⟨wild_new O ?_, s[k], ?_, ?_⟩⟩
  · unfold okV; exact decide_eq_false (by omega)
  · exact List.getElem_mem hl'
  · unfold isDig; exact decide_eq_false (by omega)
theorem objR_all {p : List UInt8} (h3 : p.length = 3) {O : List Int} (hr : objR p 3 O) : ObjI p O := by
  obtain ⟨hl, hr⟩ := hr
  rcases hr with ⟨h1, b, hb, hd⟩ | h1
  · exact .inr ⟨fun h => (by have := h.2 b hb; rw [hd] at this; cases this), wild_no h1⟩
  · rw [List.take_of_length_le (by omega)] at h1
    by_cases hd : ∀ b ∈ p, isDig b = true
    · exact .inl ⟨h3, hd, h1⟩
    · refine .inr ⟨fun h => hd h.2, fun L2 hm => hd (fun b hb => ?_)⟩
      obtain ⟨j, hj, rfl⟩ := List.mem_iff_getElem.1 hb
      have h2 := hm.2.1 j (by rw [h1, List.length_map]; exact hj)
      have e : O.getD j 0 = digV p[j] := by rw [h1]; simp [List.getD, hj]
      rw [e] at h2
      have h4 := okV_in' h2
      unfold digV at h4
      unfold isDig
      exact decide_eq_true (by omega)
theorem objI_not3 {p : List UInt8} (h : p.length ≠ 3) : ObjI p [] := .inr ⟨fun h' => h h'.1, fun L2 hm => by have := hm.1; simp at this⟩
set_option maxRecDepth 100000 in
set_option maxHeartbeats 8000000 in
theorem implParseObjects (s : ByteArray) (w : World) (hs : s.size ≤ 1048576) :
    Calls Tryd.prog 27 #[.string s] w fun e w' => ∃ v O, e = .returned v ∧ OwnI w.heap.size w' v O ∧ ObjI s.data.toList O ∧ O.length ≤ 3 ∧ Below w.heap.size w w' := by
  have hl : s.data.toList.length = s.size := by rw [Array.length_toList]; rfl
  by_cases h3 : s.size = 3
  · have g0 : ((s.size : Int) != 3) = false := by rw [h3]; rfl
    have HALL := Lib.hid (fun O h => objR_all (p := s.data.toList) (O := O) (by rw [hl]; exact h3) h)
    have H3 := Lib.hid h3
    have hs3 : s.size ≤ 3 := by omega
    have hmk : ∀ W : World, (Instr.makeSlice 22 (.int .i64 0) (.int .i64 3)).run Tryd.prog W = .ok (.slice (some ⟨W.heap.size, 0, none⟩) 0 3) (W.alloc (.cells (madeCells #[.int .i64 0] 3) 3)) := fun W => by
      obtain ⟨i0, hi, hz0, hz1, hz2⟩ := info_parts infoI
      have h := run_make (P := Tryd.prog) W 22 3 i0 (.int .i64 0) Tryd.underlying22 hi hz0 .i64 .i64 0 3 (by omega) (by omega) (by rw [hz2]; omega) (by omega)
      simpa [hz1, Value.cells] using h
    clear hl h3
    go_enter Tryd.func27, Tryd.ntmps27
    go_wp2_with fail
    clear hmk
    go_loopw [3] (fun v wr => ∃ k O, k ≤ s.size ∧ wr.heap[w.heap.size + 1]? = some (.stringIter s k) ∧ Hid (objR s.data.toList k O) ∧ OwnI w.heap.size wr v O ∧ Below w.heap.size w wr) (fun _ wr => s.size - wr.iterPos (w.heap.size + 1))
    case atStart =>
      have hb0 := (Below.refl w.heap.size w).alloc (Nat.le_refl _) (.cells (madeCells #[.int .i64 0] 3) 3)
      refine ⟨0, [], Nat.zero_le _, ?_, Lib.hid ⟨by simp, .inr rfl⟩, ?_, ?_⟩
      · have h := World.iter_heap (w.alloc (.cells (madeCells #[.int .i64 0] 3) 3)) s 0
        simpa using h
      · exact (World.ownsRow_made w _ _ (Nat.le_refl _) (by unfold maxLen; omega) (by simp [size_madeCells])).alloc _
      · exact hb0.alloc (by simp) _
    case round =>
      obtain ⟨k, O, hk, hit, HR, hown, hb⟩ := hrel
      have HPOS : Hid (wr.iterPos (w.heap.size + 1) = k) := Lib.hid (iterPos_of hit)
      have HIT := Lib.hid hit
      have hK : w.heap.size + 1 < wr.heap.size := (Array.getElem?_eq_some_iff.1 hit).1
      have hol : O.length ≤ 3 := by have := HR.out.1; omega
      clear hit
      by_cases hlt : k < s.size
      · by_cases hlow : s[k].toNat < 128
        · have hnx := fun ty => Lib.run_next_ascii_at (P := Tryd.prog) wr (w.heap.size + 1) s k ty HIT.out hlt hlow
          have HITA := Lib.hid (Lib.iterAt_heap wr (w.heap.size + 1) s k (k + 1) HIT.out)
          have hownA := own_iterAt hown.row HIT.out (k + 1)
          have hbA := Lib.below_iterAt hb (show w.heap.size ≤ w.heap.size + 1 by omega) s (k + 1)
          have HN := Lib.hid (objR_one hlt HR.out)
          have j3 : IntKind.i32.wrap ((s[k].toNat : Int) - 48) = (s[k].toNat : Int) - 48 := IntWalk.i32_in _ (by omega)
          have j4 : IntKind.i64.wrap ((s[k].toNat : Int) - 48) = (s[k].toNat : Int) - 48 := IntWalk.i64_in _ (by omega)
          go_wp2_with (at_builtin; refine wpList_push1 rfl _ _ 22 rfl w.heap.size 3 (.int .i64 0) 8 Tryd.underlying22 infoI rfl _ _ _ rfl hownA _ 1 rfl (by rfl) (by omega) (by omega) hbA.size ?_; intro v' w2 hown' hb2 hg2)
          have HITC := Lib.hid (iter_grown HITA.out hg2 (own_ne_iter hownA HITA.out))
          go_roundw
          case rel => exact ⟨k + 1, _, by omega, HITC.out, HN, OwnI.snoc hown', hbA.trans hb2⟩
          case measure => rw [HPOS.out, iterPos_of HITC.out]; omega
        · have hdb := decode_bytes s k hlt (by omega)
          have hnx := fun ty => Lib.run_next_any_at (P := Tryd.prog) wr (w.heap.size + 1) s k ty HIT.out hlt
          have hd1 := decode_high s k hlt (by omega)
          have hd2 := decode_le s k
          have HW := Lib.hid (fun n hn r hr => objR_wide (s := s) (k := k) (n := n) hlt hn (by omega) (r := r) hr HR.out)
          obtain ⟨d, hd⟩ : ∃ d, d = Utf8.decode s k := ⟨_, rfl⟩
          simp only [← hd] at hnx hd1 hdb hd2
          clear hd
          obtain ⟨r, n⟩ := d
          simp only at hnx hd1 hdb hd2
          have hle := (hdb (n - 1) (by omega)).1
          have HN := Lib.hid (HW.out n (by omega) r (by omega))
          have HITA := Lib.hid (Lib.iterAt_heap wr (w.heap.size + 1) s k (k + n) HIT.out)
          have hownA := own_iterAt hown.row HIT.out (k + n)
          have hbA := Lib.below_iterAt hb (show w.heap.size ≤ w.heap.size + 1 by omega) s (k + n)
          have j3 : IntKind.i32.wrap ((r : Int) - 48) = (r : Int) - 48 := IntWalk.i32_in _ (by omega)
          have j4 : IntKind.i64.wrap ((r : Int) - 48) = (r : Int) - 48 := IntWalk.i64_in _ (by omega)
          clear hdb HW
          go_wp2_with (at_builtin; refine wpList_push1 rfl _ _ 22 rfl w.heap.size 3 (.int .i64 0) 8 Tryd.underlying22 infoI rfl _ _ _ rfl hownA _ 1 rfl (by rfl) (by omega) (by omega) hbA.size ?_; intro v' w2 hown' hb2 hg2)
          have HITC := Lib.hid (iter_grown HITA.out hg2 (own_ne_iter hownA HITA.out))
          go_roundw
          case rel => exact ⟨k + n, _, by omega, HITC.out, HN, OwnI.snoc hown', hbA.trans hb2⟩
          case measure => rw [HPOS.out, iterPos_of HITC.out]; omega
      · obtain rfl : k = s.size := by omega
        have hnx := fun ty => Lib.run_next_end_at (P := Tryd.prog) wr (w.heap.size + 1) s s.size ty HIT.out hlt
        have HF := Lib.hid (HALL.out O (by have h := HR.out; rw [H3.out] at h; exact h))
        go_wp2_with fail
        go_ret
        exact ⟨_, O, rfl, hown, HF.out, hol, hb⟩
  · have g0 : ((s.size : Int) != 3) = true := by rw [bne_iff_ne]; omega
    have HF := Lib.hid (objI_not3 (p := s.data.toList) (by rw [hl]; exact h3))
    clear hl h3
    go_enter Tryd.func27, Tryd.ntmps27
    go_wp2_with fail
    go_ret
    exact ⟨_, [], rfl, World.ownsRow_nil _ _ _ _, HF.out, by simp, Below.refl _ _⟩
theorem run_behind (W : World) (g n cap : Nat) : (Instr.slice 37 (.slice (some ⟨g, 0, none⟩) (n + 1) (cap + 1)) (some (.int .i64 1)) none none).run Tryd.prog W = .ok (.slice (some ⟨g, if cap = 0 then 0 else 1, none⟩) n cap) W := by
  rw [run_slice_l (P := Tryd.prog) W 37 (some ⟨g, 0, none⟩) (n + 1) (cap + 1) (by kernel_rfl) .i64 1 (by omega) (by omega)]
  have hs : (sizeOf (Tryd.prog.elem 37)).run Tryd.prog W = .ok 1 W := by kernel_rfl
  rw [hs]
  show Result.ok (sliced (some ⟨g, 0, none⟩) 1 (n + 1) (cap + 1) 1) W = _
  unfold sliced
  by_cases h : cap = 0
  · subst h; rfl
  · have e : ¬ cap + 1 = 1 := by omega
    simp [h, Addr.add]
def pxE (ps : List (List UInt8)) (m : Nat) : List Sess := ((ps.drop 1).take m).map px
theorem pxE_len {ps : List (List UInt8)} {m : Nat} (h : m + 1 ≤ ps.length) : (pxE ps m).length = m := by unfold pxE; rw [List.length_map, List.length_take, List.length_drop]; omega
theorem pxE_succ {ps : List (List UInt8)} {j : Nat} (h : j + 1 < ps.length) : pxE ps (j + 1) = pxE ps j ++ [px (ps.getD (j + 1) [])] := by
  unfold pxE
  have hl : j < (ps.drop 1).length := by rw [List.length_drop]; omega
  rw [List.take_succ_eq_append_getElem hl, List.map_append]
  congr 2
  rw [List.getElem_drop]
  simp [List.getD, h, Nat.add_comm 1 j]
theorem pxE_all {ps : List (List UInt8)} {m : Nat} (h : ps.length ≤ m + 1) : pxE ps m = (ps.drop 1).map px := by unfold pxE; rw [List.take_of_length_le (by rw [List.length_drop]; omega)]
theorem px_all {ps : List (List UInt8)} (h : ∀ j, j + 1 < ps.length → pxOk (ps.getD (j + 1) []) = true) : ∀ p ∈ ps.drop 1, pxOk p = true := fun p hp => by
  obtain ⟨j, hj, rfl⟩ := List.mem_iff_getElem.1 hp
  rw [List.length_drop] at hj
  have := h j (by omega)
  rw [List.getElem_drop]
  have e : ps.getD (j + 1) [] = ps[1 + j] := by simp [List.getD, show j + 1 < ps.length by omega, Nat.add_comm 1 j]
  rwa [e] at this
theorem px_bad {s : List UInt8} {O : List Int} (hO : ObjI ((wsI s).getD 0 []) O) {j : Nat} (h : j + 1 < (wsI s).length) (hk : pxOk ((wsI s).getD (j + 1) []) = false) : parMok s = false ∧ parMO s = [] ∧ parMX s = [] :=
  machine_no hO (fun hh => by
    have hm : (wsI s).getD (j + 1) [] ∈ (wsI s).drop 1 := by
      have hl : j < ((wsI s).drop 1).length := by rw [List.length_drop]; omega
      have e : (wsI s).getD (j + 1) [] = ((wsI s).drop 1)[j] := by
        rw [List.getElem_drop]
        simp [List.getD, h, Nat.add_comm 1 j]
      rw [e]
      exact List.getElem_mem hl
    have := hh.1 _ hm
    rw [hk] at this
    cases this)
theorem splitM (s : ByteArray) (w : World) (hs : s.size ≤ 1048576) (hM : Mx w) :
    Calls Tryd.prog 26 #[.string s, .string { data := #[32] }, .int .i64 4] w fun e w' => ∃ g cap, e = .returned (.slice (some ⟨g, 0, none⟩) (wsI s.data.toList).length cap) ∧ (wsI s.data.toList).length ≤ cap ∧ cap ≤ 4 ∧ w.heap.size ≤ g ∧
      PartsAt w' g (wsI s.data.toList) ∧ Below w.heap.size w w' := splitWords 32 3 (by omega) s w hs hM
set_option maxRecDepth 100000 in
set_option maxHeartbeats 16000000 in
theorem implParseMachine (s : ByteArray) (w : World) (hs : s.size ≤ 1048576) (hT : Tab w) (hM : Mx w) :
    Calls Tryd.prog 7 #[.string s] w fun e w' => ∃ u1 u2, e = .returned (.tuple #[.agg #[u1, u2], .bool (parMok s.data.toList)]) ∧ OwnI w.heap.size w' u1 (parMO s.data.toList) ∧ OwnS w.heap.size w' u2 (parMX s.data.toList) ∧ Below w.heap.size w w' := by
  have hl : s.data.toList.length = s.size := by rw [Array.length_toList]; rfl
  have hpl : ∀ j, ((wsI s.data.toList).getD j []).length ≤ 1048576 := fun j => by
    rcases Nat.lt_or_ge j (wsI s.data.toList).length with h | h
    · have hm : (wsI s.data.toList).getD j [] ∈ wsI s.data.toList := by simp [List.getD, h]
      have := split_mem 32 _ _ _ hm
      omega
    · simp [List.getD, h]
  have hp0 : 0 < (wsI s.data.toList).length := split_pos 32 3 s.data.toList
  obtain ⟨W, hW⟩ : ∃ W, W = w.alloc (.cells #[.slice none 0 0, .slice none 0 0] 25) := ⟨_, rfl⟩
  have HB := Lib.hid (show Below w.heap.size w W by rw [hW]; exact (Below.refl _ _).alloc (Nat.le_refl _) _)
  have HR := Lib.hid (show BoxC W w.heap.size 25 #[.slice none 0 0, .slice none 0 0] by rw [hW]; exact BoxC.new _ _ _)
  have hWs : W.heap.size = w.heap.size + 1 := by rw [hW]; simp
  have HW := Lib.hid hW
  have HT := Lib.hid (fun W' (h : Below w.heap.size w W') => hT.below h)
  have HM := Lib.hid (fun W' (h : Below w.heap.size w W') => hM.below h)
  have JC := Lib.hid (splitM s W hs (HM.out _ HB.out))
  have HBAD := Lib.hid (fun O (h : ObjI ((wsI s.data.toList).getD 0 []) O) j h1 h2 => px_bad (j := j) h h1 h2)
  have HYES := Lib.hid (fun O (h : ObjI ((wsI s.data.toList).getD 0 []) O) => machine_yes h)
  have HNO := Lib.hid (fun O (h : ObjI ((wsI s.data.toList).getD 0 []) O) => machine_no h)
  have HPL := Lib.hid hpl
  clear hl hW hT hM hpl
  go_enter Tryd.func7, Tryd.ntmps7
  go_wp2_with fail
  rw [← HW.out]
  refine JC.out.mono ?_
  rintro e w1 ⟨g, cap, rfl, hn, hc4, hgw, hp, hb⟩
  clear JC HW
  have HP := Lib.hid hp
  replace HR := Lib.hid (HR.out.later hb)
  have hg0 : w.heap.size ≤ w1.heap.size := by have := hb.size; omega
  replace HB := Lib.hid (HB.out.trans (hb.mono HB.out.size))
  clear hp hb
  generalize wsI s.data.toList = ps at *
  have hcell := HP.out.2 0 hp0
  have hq0 := HPL.out 0
  obtain ⟨sb, hsb⟩ : ∃ sb : ByteArray, sb.data.toList = ps.getD 0 [] := ⟨⟨(ps.getD 0 []).toArray⟩, by simp⟩
  have e1 : str (ps.getD 0 []) = .string sb := by rw [← hsb]
  rw [e1] at hcell
  rw [← hsb] at hq0 HBAD HYES HNO
  rw [Array.length_toList] at hq0
  have JO := Lib.hid (implParseObjects sb w1 hq0)
  obtain ⟨n1, hn1⟩ : ∃ n1, ps.length = n1 + 1 := ⟨ps.length - 1, by omega⟩
  obtain ⟨c1, hc1⟩ : ∃ c1, cap = c1 + 1 := ⟨cap - 1, by omega⟩
  subst hc1
  obtain ⟨A, hA⟩ : ∃ A, A = (if c1 = 0 then 0 else 1) := ⟨_, rfl⟩
  have HA := Lib.hid (show 0 < n1 → A = 1 from fun h => by rw [hA, if_neg (by omega)])
  have RS := fun W => run_behind W g n1 c1
  rw [← hA] at RS
  have HN1 := Lib.hid hn1
  have hn3 : n1 ≤ 3 := by omega
  rw [hn1]
  clear hA hn1 hn hc4
  clear hsb e1 hq0
  go_wp2_with fail
  refine JO.out.mono ?_
  rintro e w2 ⟨u1, O, rfl, ho, hO, hol, hb⟩
  obtain ⟨ua, uc, rfl⟩ := ho.shape
  have hbA := (Below.refl w2.heap.size w2).alloc (Nat.le_refl _) (.cells #[.slice ua O.length uc, .slice none 0 0] 25)
  have HMB := Lib.hid (BoxC.new w2 25 #[.slice ua O.length uc, .slice none 0 0])
  replace HP := Lib.hid ((HP.out.later hb).later hbA)
  have hs2 : w.heap.size < w2.heap.size := Nat.lt_of_lt_of_le HR.out.lt hb.size
  replace HR := Lib.hid ((HR.out.later hb).later hbA)
  replace HB := Lib.hid ((HB.out.trans (hb.mono HB.out.size)).trans (hbA.mono (Nat.le_of_lt hs2)))
  have HO := Lib.hid (((OwnI.mono ho hg0)).later hbA)
  replace HBAD := Lib.hid (HBAD.out O hO)
  replace HYES := Lib.hid (HYES.out O hO)
  replace HNO := Lib.hid (HNO.out O hO)
  clear ho hb hbA JO hO hcell
  obtain ⟨pm, hpm⟩ : ∃ q, q = w2.heap.size := ⟨_, rfl⟩
  obtain ⟨w3, hw3⟩ : ∃ q, q = w2.alloc (.cells #[.slice ua O.length uc, .slice none 0 0] 25) := ⟨_, rfl⟩
  rw [← hw3] at HP HR HB HO HMB
  rw [← hpm] at HMB hs2
  have HW3 := Lib.hid hw3
  have HPM := Lib.hid hpm
  have hne : w.heap.size ≠ pm := Nat.ne_of_lt hs2
  have hpb : w.heap.size ≤ pm := Nat.le_of_lt hs2
  clear hw3 hpm
  go_wp2_with fail
  rw [← HW3.out, ← HPM.out]
  clear HW3 HPM
  go_wp2_with fail
  go_loopw [20] (fun i wr => ∃ (k : Nat) (u2 : Value), k ≤ n1 ∧ i = .int .i64 k ∧ Hid (BoxC wr pm 25 #[.slice ua O.length uc, u2]) ∧ Hid (OwnI w.heap.size wr (.slice ua O.length uc) O) ∧ Hid (OwnS w.heap.size wr u2 (pxE ps k)) ∧ Hid (∀ j, j < k → pxOk (ps.getD (j + 1) []) = true) ∧ Hid (PartsAt wr g ps) ∧ Hid (BoxC wr w.heap.size 25 #[.slice none 0 0, .slice none 0 0]) ∧ Hid (Below w.heap.size w wr)) (fun i _ => n1 - (intOf i).toNat)
  case atStart => exact ⟨0, _, Nat.zero_le _, rfl, HMB, HO, Lib.hid (World.ownsRow_nil _ _ _ _), Lib.hid (fun j hj => by omega), HP, HR, HB⟩
  clear HMB HO HP HR HB
  case round =>
    obtain ⟨k, u2, hk, rfl, HMB, HO, HOS, HJ, HP, HR, HB⟩ := hrel
    obtain ⟨xa, xc, rfl⟩ := HOS.out.shape
    have hlx := pxE_len (ps := ps) (m := k) (by have := HN1.out; omega)
    have HM' := HMB.out
    have HO' := HOS.out
    rw [hlx] at HM' HO'
    replace HMB := Lib.hid HM'
    replace HOS := Lib.hid HO'
    clear HM' HO'
    have k3 : (0 : Int) ≤ (k : Int) := by omega
    by_cases hlt1 : k < n1
    · have hA1 := HA.out (by omega)
      subst hA1
      have hlt : k + 1 < ps.length := by have := HN1.out; omega
      have k6 : (k : Int) < (n1 : Int) := by omega
      have HX := Lib.hid (show pxE ps (k + 1) = pxE ps k ++ [px (ps.getD (1 + k) [])] by rw [Nat.add_comm 1 k]; exact pxE_succ hlt)
      have hcj := HP.out.2 (k + 1) hlt
      rw [Nat.add_comm k 1] at hcj
      have hsj := HPL.out (1 + k)
      have HBK := Lib.hid (HBAD.out k hlt)
      have HJS := Lib.hid (fun (h : pxOk (ps.getD (1 + k) []) = true) (j : Nat) (hj : j < k + 1) => show pxOk (ps.getD (j + 1) []) = true by
        by_cases e : j = k
        · rw [e, Nat.add_comm k 1]; exact h
        · exact HJ.out j (by omega))
      rw [Nat.add_comm k 1] at HBK
      have JE := Lib.hid (implParseSession (ps.getD (1 + k) []) wr hsj (HT.out _ HB.out) (HM.out _ HB.out))
      generalize ps.getD (1 + k) [] = p at *
      cases hq : pxOk p with
      | false =>
        have HF := Lib.hid (HBK.out hq)
        rw [hq, pxV_no hq] at JE
        clear hq
        go_wp2_with fail
        refine JE.out.mono ?_
        rintro e w5 ⟨rfl, hb⟩
        have hbA := (Below.refl w5.heap.size w5).alloc (Nat.le_refl _) (.cells #[.int .i64 0, .int .i64 0, .bool false, .int .i64 0] 48)
        replace HR := Lib.hid ((HR.out.later hb).later hbA)
        replace HB := Lib.hid ((HB.out.trans (hb.mono HB.out.size)).trans (hbA.mono (Nat.le_trans HB.out.size hb.size)))
        clear hb JE hbA hcj
        have r0 := HR.out.c 0 rfl
        have r1 := HR.out.c 1 rfl
        have f0 := HR.out.f 0
        have f1 := HR.out.f 1
        go_wp2_with fail
        refine bodyPost_ret (v := .tuple #[.agg #[.slice none 0 0, .slice none 0 0], .bool false]) (by simp [results, Tryd.results7, go_sem, r0, r1]) rfl ?_
        exact ⟨_, _, by rw [HF.out.1], by rw [HF.out.2.1]; exact World.ownsRow_nil _ _ _ _, by rw [HF.out.2.2]; exact World.ownsRow_nil _ _ _ _, (HB.out.setCell (p := ⟨w.heap.size, 0, none⟩) (Nat.le_refl _) _).setCell (p := ⟨w.heap.size, 1, none⟩) (Nat.le_refl _) _⟩
      | true =>
        replace HJS := Lib.hid (HJS.out hq)
        rw [hq, pxV_yes hq] at JE
        obtain ⟨xx, xs, xd, xv, hx⟩ : ∃ a b c d, px p = (a, b, c, d) := ⟨_, _, _, _, rfl⟩
        rw [hx] at JE HX
        unfold sessV at JE
        simp only at JE
        clear hq hx hsj HBK HJ
        go_wp2_with fail
        refine JE.out.mono ?_
        rintro e w5 ⟨rfl, hb⟩
        have hbA := (Below.refl w5.heap.size w5).alloc (Nat.le_refl _) (.cells #[.int .i64 xx, .int .i64 xs, .bool xd, .int .i64 xv] 48)
        replace HMB := Lib.hid ((HMB.out.later hb).later hbA)
        replace HO := Lib.hid ((HO.out.later hb).later hbA)
        replace HOS := Lib.hid ((HOS.out.later hb).later hbA)
        replace HP := Lib.hid ((HP.out.later hb).later hbA)
        replace HR := Lib.hid ((HR.out.later hb).later hbA)
        replace HB := Lib.hid ((HB.out.trans (hb.mono HB.out.size)).trans (hbA.mono (Nat.le_trans HB.out.size hb.size)))
        have r0 := HMB.out.c 0 rfl
        have r1 := HMB.out.c 1 rfl
        clear hb hbA JE hcj
        have hbL := (Below.refl (w5.alloc (.cells #[.int .i64 xx, .int .i64 xs, .bool xd, .int .i64 xv] 48)).heap.size (w5.alloc (.cells #[.int .i64 xx, .int .i64 xs, .bool xd, .int .i64 xv] 48))).alloc (Nat.le_refl _) (.cells #[.int .i64 xx, .int .i64 xs, .bool xd, .int .i64 xv] 48)
        have hlit := SrcS.lit (w5.alloc (.cells #[.int .i64 xx, .int .i64 xs, .bool xd, .int .i64 xv] 48)) (xx, xs, xd, xv)
        simp only [World.size_alloc] at hlit
        have HML := Lib.hid (HMB.out.later hbL)
        have HOL := Lib.hid (HO.out.later hbL)
        have HOSL := Lib.hid (HOS.out.later hbL)
        have HPL2 := Lib.hid (HP.out.later hbL)
        have HRL := Lib.hid (HR.out.later hbL)
        have HBL := Lib.hid (HB.out.trans (hbL.mono HB.out.size))
        have hs2 := HBL.out.size
        simp only [World.size_alloc] at hs2
        clear hbL
        go_wp2_with (at_builtin; refine wpList_appS rfl (.tmp 33) (.tmp 35) rfl w.heap.size _ (pxE ps k) rfl HOSL.out _ _ [(xx, xs, xd, xv)] rfl hlit (by rw [hlx]; simp; omega) (by simp; omega) ?_; intro v' w6 ho6 hb6 hg6; have HM6 := Lib.hid (HML.out.past (by decide) HOSL.out.row hg6); have HO6 := Lib.hid (rows_past HOL.out.row HOSL.out.row (by decide) hg6); have HP6 := Lib.hid (HPL2.out.past (by decide) HOSL.out.row hg6); have HR6 := Lib.hid (HRL.out.past (by decide) HOSL.out.row hg6); have HB6 := Lib.hid (HBL.out.trans hb6); rw [← HX.out] at ho6; obtain ⟨va, vc, hv6⟩ := ho6.shape; rw [pxE_len (ps := ps) (m := k + 1) hlt] at hv6; subst hv6; have s0 := HM6.out.c 0 rfl; have s1 := HM6.out.c 1 rfl; have sf := HM6.out.f 1)
        have HM7 := Lib.hid (HM6.out.put 1 (.slice va (k + 1) vc))
        have HO7 := Lib.hid (row_put HO6.out HM6.out (by decide) 1 (.slice va (k + 1) vc))
        have HOS7 := Lib.hid (row_put ho6.row HM6.out (by decide) 1 (.slice va (k + 1) vc))
        have HP7 := Lib.hid (HP6.out.put HM6.out (by decide) 1 (.slice va (k + 1) vc))
        have HR7 := Lib.hid (HR6.out.keep hne 1 (.slice va (k + 1) vc))
        have HB7 := Lib.hid (HB6.out.setCell (p := ⟨pm, 1, none⟩) hpb (.slice va (k + 1) vc))
        go_roundw
        case rel => exact ⟨k + 1, _, by omega, by go_num, HM7, HO7, HOS7, HJS, HP7, HR7, HB7⟩
        case measure => simp [intOf]; omega
    · have HAL := Lib.hid (pxE_all (ps := ps) (m := k) (by have := HN1.out; omega))
      have HJA := Lib.hid (px_all (ps := ps) (fun j hj => HJ.out j (by have := HN1.out; omega)))
      obtain ⟨ya, yc, hv1, _, _, t1, _⟩ := HO.out.form
      have t2 := HOS.out
      obtain ⟨za, zc, hv2, _, _, t2', _⟩ := t2.form
      injection hv1 with hv1a hv1b hv1c
      injection hv2 with hv2a hv2b hv2c
      subst hv1a hv1c hv2a hv2c
      have hll : (pxE ps k).length ≤ 4194304 := by rw [hlx]; omega
      have JI := implIsValidMachineA ua uc O xa xc (pxE ps k) wr (by omega) hll t1 t2'
      have r0 := HMB.out.c 0 rfl
      have r1 := HMB.out.c 1 rfl
      have q0 := HR.out.c 0 rfl
      have q1' := HR.out.c 1 rfl
      obtain rfl : k = n1 := by omega
      clear t1 t2 t2' hv1b hv2b hll hlt1
      by_cases hmk : MOk O (pxE ps k)
      · rw [decide_eq_true hmk] at JI
        rw [hlx] at JI
        have JI := Lib.hid JI
        have HF := Lib.hid (by rw [HAL.out] at hmk; exact HYES.out HJA.out hmk)
        rw [← HAL.out] at HF
        clear hmk
        go_wp2_with fail
        refine JI.out.mono ?_
        rintro e w6 ⟨rfl, hb⟩
        replace HMB := Lib.hid (HMB.out.later hb)
        replace HO := Lib.hid (HO.out.later hb)
        replace HOS := Lib.hid (HOS.out.later hb)
        replace HR := Lib.hid (HR.out.later hb)
        replace HB := Lib.hid (HB.out.trans (hb.mono HB.out.size))
        clear hb JI r0 r1 q0 q1'
        have r0 := HMB.out.c 0 rfl
        have r1 := HMB.out.c 1 rfl
        have q0 := HR.out.c 0 rfl
        have q1' := HR.out.c 1 rfl
        have f0 := HR.out.f 0
        have f1 := HR.out.f 1
        go_wp2_with fail
        refine bodyPost_ret (v := .tuple #[.agg #[.slice ua O.length uc, .slice xa k xc], .bool true]) (by simp [results, Tryd.results7, go_sem, q0, q1']) rfl ?_
        exact ⟨_, _, by rw [HF.out.1], by rw [HF.out.2.1]; exact row_put (row_put HO.out.row HR.out (by decide) 0 _) (HR.out.put 0 _) (by decide) 1 _, by rw [HF.out.2.2]; exact row_put (row_put HOS.out.row HR.out (by decide) 0 _) (HR.out.put 0 _) (by decide) 1 _, (HB.out.setCell (p := ⟨w.heap.size, 0, none⟩) (Nat.le_refl _) _).setCell (p := ⟨w.heap.size, 1, none⟩) (Nat.le_refl _) _⟩
      · rw [decide_eq_false hmk] at JI
        rw [hlx] at JI
        have JI := Lib.hid JI
        have HF := Lib.hid (HNO.out (fun h => hmk (by rw [HAL.out]; exact h.2)))
        clear hmk
        go_wp2_with fail
        refine JI.out.mono ?_
        rintro e w6 ⟨rfl, hb⟩
        replace HR := Lib.hid (HR.out.later hb)
        replace HB := Lib.hid (HB.out.trans (hb.mono HB.out.size))
        clear hb JI r0 r1 q0 q1'
        have r0 := HR.out.c 0 rfl
        have r1 := HR.out.c 1 rfl
        have f0 := HR.out.f 0
        have f1 := HR.out.f 1
        go_wp2_with fail
        refine bodyPost_ret (v := .tuple #[.agg #[.slice none 0 0, .slice none 0 0], .bool false]) (by simp [results, Tryd.results7, go_sem, r0, r1]) rfl ?_
        exact ⟨_, _, by rw [HF.out.1], by rw [HF.out.2.1]; exact World.ownsRow_nil _ _ _ _, by rw [HF.out.2.2]; exact World.ownsRow_nil _ _ _ _, (HB.out.setCell (p := ⟨w.heap.size, 0, none⟩) (Nat.le_refl _) _).setCell (p := ⟨w.heap.size, 1, none⟩) (Nat.le_refl _) _⟩
end Go.Proofs.YtibpajlfcknegaaDoor.kit
