/-
  Chapter 9: what impl's PickSpare and IsSpread return.
-/
import Derived.Test.YtpdpejlcilnafaaS9Sort
namespace Go.Proofs.Ytpdpejlcilnafaa.kit
open Go.ChangeShapes Go.WideShapes Go.ChangeAt Go.RowKit Go.Sort Go.Shelf
set_option linter.unusedVariables false
set_option linter.unusedSimpArgs false

set_option maxRecDepth 100000 in
set_option maxHeartbeats 4000000 in
theorem implSpareOrder (aL : Option Addr) (cL : Nat) (L : List Pla) (bR : Nat) (yR : Option Addr) (qR : Nat) (R : List Int) (w : World) (ha : AtQ w aL L) (ho : OwnI bR w (.slice yR R.length qR) R) :
    Calls Try.prog 56 #[.slice aL L.length cL, .slice yR R.length qR] w fun e w' => ∃ p2 p3 p5 : Nat, e = .returned (.func (Fn.func 74) #[] #[.pointer (some ⟨p5, 0, none⟩), .pointer (some ⟨p2, 0, none⟩)]) ∧ w.heap.size ≤ p2 ∧ w.heap.size ≤ p3 ∧ w.heap.size ≤ p5 ∧ Clos w' p2 p3 p5 aL cL L bR yR qR R ∧ Below w.heap.size w w' := by
  have HA := Lib.hid ha
  have HO := Lib.hid ho
  clear ha ho
  have hr := one_row ((w.alloc (.cells #[.slice aL L.length cL] 24)).alloc (.cells #[.slice yR R.length qR] 25)) .nilFunc 86
  have hcell := hr.cell (i := 0) (by omega)
  have hfr := hr.frozen 0
  simp only [World.size_alloc] at hcell hfr
  clear hr
  have hst : ∀ (W : World) (a : Addr) (f : Fn) (x y : Array Value) (m : Mode) (u : Value), W.cell? a = some u → W.frozen? a = false → (store a (.func f x y) m).run Try.prog W = .ok () (W.setCell a (.func f x y)) := fun W a f x y m u h1 h2 => by rw [run_store Try.prog W a (.func f x y) m rfl, h1]; simp [h2]
  have hst2 := fun f x y m => hst _ _ f x y m _ hcell hfr
  clear hst
  go_enter Try.func56, Try.ntmps56
  go_wp2_with fail
  clear hcell hfr hst2
  go_ret
  refine ⟨w.heap.size, w.heap.size + 1, w.heap.size + 1 + 1, rfl, by omega, by omega, by omega, ⟨?_, ?_, ?_, HA.out.later (by go_grown), HO.out.later (by go_grown)⟩, by go_grown⟩ <;> go_simp
def fz (x : Int) : Fin 5 := ⟨x.toNat % 5, Nat.mod_lt _ (by omega)⟩
theorem fz_val {x : Int} (h : 0 ≤ x ∧ x < 5) : ((fz x).val : Int) = x := by unfold fz; show ((x.toNat % 5 : Nat) : Int) = x; omega
def encF5 (i : Fin 5) : Value := .int .i64 (i.val : Int)
theorem grownBy_sortF {w : World} {g n : Nat} {os : Array Obj} (d : Array (Fin 5)) : w.grownBy (sortWorld encF5 w g 0 n d os) (some g) := by
  unfold sortWorld
  refine ⟨rfl, rfl, rfl, by simp, fun k hk hne => ?_⟩
  rw [heap_grow_old _ _ (by simpa using hk)]
  have : g ≠ k := fun e => hne (by rw [e])
  simp [putRow, mapBlock, Sort.ahead, Array.getElem?_modify, this]
theorem Clos.grown {w w' : World} {p2 p3 p5 g : Nat} {aL : Option Addr} {cL : Nat} {L : List Pla} {bR : Nat} {yR : Option Addr} {qR : Nat} {R : List Int} (h : Clos w p2 p3 p5 aL cL L bR yR qR R) (hg : w.grownBy w' (some g))
    (h2 : p2 ≠ g) (h3 : p3 ≠ g) (h5 : p5 ≠ g) (ha : ∀ x : Addr, aL = some x → 0 < L.length → x.block ≠ g) (hr : ∀ x : Addr, yR = some x → x.block ≠ g) : Clos w' p2 p3 p5 aL cL L bR yR qR R := by
  have key : ∀ (p : Addr) (v : Value), w.cell? p = some v → p.block ≠ g → w'.cell? p = some v := fun p v hc hne =>
    (World.cell?_of_block (hg.block _ (World.block_lt_of_cell? w _ hc) (fun e => hne (Option.some.inj e)))).trans hc
  refine ⟨key _ _ h.l h2, key _ _ h.t h3, key _ _ h.f h5, fun j hj => ?_, ?_⟩
  · obtain ⟨b, o, hx, hlt, hc⟩ := h.a j hj
    have hne := ha _ hx (by omega)
    exact ⟨b, o, hx, Nat.lt_of_lt_of_le hlt hg.size, ⟨key _ _ hc.c0 hne, key _ _ hc.c1 hne, key _ _ hc.c2 hne⟩⟩
  · refine h.r.row.kept (row := some g) hg ?_
    cases yR with
    | none => simp [Value.ownBlock]
    | some x =>
      have := hr x rfl
      simp [Value.ownBlock]
      omega
theorem swoP (L : List Pla) (R : List Int) : SWO (ltOf fun i j : Fin 5 => cmpP L R (i.val : Int) (j.val : Int)) where
  irrefl x := by unfold ltOf; rw [decide_eq_false_iff_not, cmpP_lt]; exact ltP_irr L R _
  trans x y z h1 h2 := by
    unfold ltOf at *
    rw [decide_eq_true_iff, cmpP_lt] at *
    exact ltP_tr h1 h2
  ntrans x y z h1 h2 := by
    unfold ltOf at *
    rw [decide_eq_false_iff_not, cmpP_lt] at *
    unfold ltP at *
    omega
theorem sortCell {w : World} {g n cap : Nat} {os : Array Obj} {b : Nat} {cs : List Int} (ho : OwnI b w (.slice (some ⟨g, 0, none⟩) cs.length cap) cs) (d : Array (Fin 5)) (hd : d.size = cs.length) (h0 : 0 < cs.length) :
    (sortWorld encF5 w g 0 n d os).cell? ⟨g, 0, none⟩ = some (encF5 d[0]!) := by
  rcases ho.row.2 with ⟨h1, _⟩ | ⟨g', c, cur, hv, hg, hh, hn, hm, hcs, _⟩
  · cases h1
  cases hv
  have hlt : g < w.heap.size := (Array.getElem?_eq_some_iff.1 hh).1
  have hb : (sortWorld encF5 w g 0 n d os).heap[g]? = some (.cells (putCells encF5 0 d cur) 3 (0, 0)) := by
    unfold sortWorld
    rw [heap_grow_old _ _ (by simpa using hlt)]
    simp [putRow, mapBlock, Sort.ahead, Array.getElem?_modify, hh, onCells]
  unfold World.cell?
  simp only [hb]
  have hc0 : 0 < cur.size := by omega
  simp [putCells, hc0, show 0 < d.size by omega]
set_option maxHeartbeats 1000000 in
theorem sortSpares {w : World} {p2 p3 p5 : Nat} {aL : Option Addr} {cL : Nat} {L : List Pla} {bR : Nat} {yR : Option Addr} {qR : Nat} {R : List Int} (h : Clos w p2 p3 p5 aL cL L bR yR qR R) (hL : L.length = 5) (hR : R.length ≤ 4194304)
    (g cap b : Nat) (cs : List Int) (hcs : ∀ x ∈ cs, 0 ≤ x ∧ x < 5) (h0 : 0 < cs.length) (h5 : cs.length ≤ 5) (ho : OwnI b w (.slice (some ⟨g, 0, none⟩) cs.length cap) cs)
    (n2 : p2 ≠ g) (n3 : p3 ≠ g) (n5 : p5 ≠ g) (na : ∀ x : Addr, aL = some x → 0 < L.length → x.block ≠ g) (nr : ∀ x : Addr, yR = some x → x.block ≠ g) :
    Calls Try.prog 55 #[.slice (some ⟨g, 0, none⟩) cs.length cap, .func (Fn.func 74) #[] #[.pointer (some ⟨p5, 0, none⟩), .pointer (some ⟨p2, 0, none⟩)]] w
      fun e w' => e = .returned (.tuple #[]) ∧ ∃ T : List Int, T.Perm cs ∧ (∀ j, 0 < j → j < T.length → ¬ ltP L R (T.getD j 0) (T.getD 0 0)) ∧ w'.cell? ⟨g, 0, none⟩ = some (.int .i64 (T.getD 0 0)) ∧ w.grownBy w' (some g) := by
  have hg : g < w.heap.size := by
    obtain ⟨g', c, hv, _, _, _, hlt⟩ := ho.there h0
    cases hv
    exact hlt
  have eg : ∀ args w, (callFunc 74 args).run Try.prog w = .ok (.enter 74 args) w := enters_of Try.func74 (by kernel_rfl) rfl
  have hH : Holds encF5 w g 0 (cs.map fz).toArray := fun j hj => by
    have hj' : j < cs.length := by simpa using hj
    rw [Nat.zero_add]
    refine ⟨?_, ho.row.frozenAt j⟩
    have h1 := ho.row.cellAt j (by simpa using hj')
    rw [h1]
    have hm := hcs cs[j] (List.getElem_mem hj')
    have e : ((cs.map fz).toArray)[j]! = fz cs[j] := by rw [getElem!_pos _ j hj]; simp
    rw [e]
    unfold encF5
    rw [fz_val hm]
    simp [hj']
  have hcmp : CmpLays1 Try.prog 74 #[.pointer (some ⟨p5, 0, none⟩), .pointer (some ⟨p2, 0, none⟩)] encF5 (fun i j : Fin 5 => cmpP L R (i.val : Int) (j.val : Int)) g 0 (cs.map fz).toArray.size w := fun m os dk hs x y =>
    cmpClosure (h.grown (grownBy_sortF dk) n2 n3 n5 na nr) (by omega) hR x.val y.val (by rw [hL]; exact x.isLt) (by rw [hL]; exact y.isLt)
  have hcon := Any.slices_SortFunc Try.sortInt encF5 (fun _ => rfl) (fun i j : Fin 5 => cmpP L R (i.val : Int) (j.val : Int)) (swoP L R) 74 #[.pointer (some ⟨p5, 0, none⟩), .pointer (some ⟨p2, 0, none⟩)] g 0 cap (cs.map fz).toArray w eg hcmp hH hg (by simp; omega)
  have hsz : (cs.map fz).toArray.size = cs.length := by simp
  rw [hsz] at hcon
  refine hcon.mono ?_
  rintro e w' ⟨rfl, d', n, os, hp, hs, rfl⟩
  obtain ⟨hsz1, _, hpm⟩ := hp
  have hsz2 : d'.size = cs.length := by simpa using hsz1
  have hT0 : (d'.toList.map fun i => ((i.val : Nat) : Int)).getD 0 0 = (d'[0]!.val : Int) := by
    rw [getElem!_pos d' 0 (by omega)]
    simp [List.getD, show 0 < d'.size by omega]
  refine ⟨rfl, d'.toList.map fun i => ((i.val : Nat) : Int), ?_, ?_, ?_, grownBy_sortF _⟩
  · have h1 : d'.extract 0 cs.length = d' := by rw [← hsz2]; simp
    have h2 : (cs.map fz).toArray.extract 0 cs.length = (cs.map fz).toArray := by simp; exact List.take_of_length_le (by simp)
    rw [h1, h2] at hpm
    have h3 := hpm.map (fun i : Fin 5 => ((i.val : Nat) : Int))
    refine h3.trans ?_
    have h4 : ((cs.map fz).toArray.toList.map fun i : Fin 5 => ((i.val : Nat) : Int)) = cs := by
      simp only [List.map_map]
      conv => rhs; rw [← List.map_id cs]
      exact List.map_congr_left (fun x hx => fz_val (hcs x hx))
    rw [h4]
  · intro j hj0 hj
    have hj' : j < d'.size := by simpa using hj
    have h2 := hs 0 j (Nat.zero_le _) hj0 (by omega)
    unfold ltOf at h2
    rw [decide_eq_false_iff_not, cmpP_lt] at h2
    rw [hT0]
    have e : (d'.toList.map fun i => ((i.val : Nat) : Int)).getD j 0 = (d'[j]!.val : Int) := by
      rw [getElem!_pos d' j hj']
      simp [List.getD, hj']
    rw [e]
    exact h2
  · rw [hT0]
    exact sortCell ho d' hsz2 h0
set_option maxRecDepth 100000 in
set_option maxHeartbeats 4000000 in
theorem implPickSpareA (a : Option Addr) (cp : Nat) (L : List Pla) (bm : Nat) (vm : Value) (m : List Int) (bv : Nat) (vv : Value) (av : List Int) (w : World) (hl : L.length ≤ 2097152) (hm : m.length ≤ 4194304) (hv : av.length ≤ 4194304) (ha : AtQ w a L) (om : OwnI bm w vm m) (ov : OwnI bv w vv av) :
    Calls Try.prog 24 #[.slice a L.length cp, vm, vv] w fun e w' => e = .returned (.int .i64 (spareP L m av)) ∧ Below w.heap.size w w' := by
  obtain ⟨ym, qm, rfl, _, _, atm, _⟩ := om.form
  obtain ⟨yv, qv, rfl⟩ := ov.shape
  have j2 := implAre_any ym qm m w hm atm
  have HA := Lib.hid ha
  have HAL := Lib.hid (atQ_low ha)
  have HM := Lib.hid om
  have HMA := Lib.hid atm
  have HV := Lib.hid ov
  clear ha om ov atm
  have hmk : ∀ W : World, (Instr.makeSlice 25 (.int .i64 0) (.int .i64 5)).run Try.prog W = .ok (.slice (some ⟨W.heap.size, 0, none⟩) 0 5) (W.alloc (.cells (madeCells #[.int .i64 0] 5) 3)) := fun _ => by kernel_rfl
  cases h2 : are m with
  | false =>
    rw [h2] at j2
    have J2 := Lib.hid j2
    have HF := Lib.hid (spareP_no (L := L) (a := av) h2)
    clear h2 j2 hmk
    go_enter Try.func24, Try.ntmps24
    go_wp2_with (go_at_call 45; with_reducible refine (J2.out).mono ?_; rintro e w1 ⟨rfl, hb1⟩)
    go_ret
    exact ⟨by rw [HF.out]; rfl, hb1⟩
  | true =>
    rw [h2] at j2
    have J2 := Lib.hid j2
    have HM2 := Lib.hid h2
    clear h2 j2
    go_enter Try.func24, Try.ntmps24
    go_wp2_with (go_at_call 45; with_reducible refine (J2.out).mono ?_; rintro e w1 ⟨rfl, hb1⟩)
    clear hmk
    have HW := Lib.hid hb1
    clear hb1 J2
    go_loopw [7, 8, 13] (fun v t i wr => ∃ k : Nat, k ≤ 5 ∧ i = .int .i64 k ∧ OwnI w.heap.size wr v (candP L m av k) ∧ Below w.heap.size w wr) (fun _ _ i _ => 5 - (intOf i).toNat)
    case atStart => exact ⟨0, Nat.zero_le _, rfl, World.ownsRow_made w1 _ 5 HW.out.size (by unfold maxLen; omega) (by simp [size_madeCells]), HW.out.trans ((Below.refl _ _).alloc HW.out.size _)⟩
    case round =>
      obtain ⟨k, hk, rfl, ho, hb⟩ := hrel
      have HB := Lib.hid hb
      by_cases hlt : k < 5
      · have j3 := implHasRoomA a cp L (k : Int) wr hl (HA.out.later hb)
        have j4 := fun W (hw : Below wr.heap.size wr W) => implHas_any bm _ m (k : Int) W hm ((HM.out.later hb).later hw)
        have j5 := fun W (hw : Below wr.heap.size wr W) => implHas_any bv _ av (k : Int) W hv ((HV.out.later hb).later hw)
        have hfr : freeP L m av (k : Int) = (roomP L (k : Int) && (!decide ((k : Int) ∈ m) && !decide ((k : Int) ∈ av))) := rfl
        have hpl := candP_len L m av k
        have HO := Lib.hid ho
        have HS := Lib.hid hb.size
        generalize roomP L (k : Int) = r at *
        cases r with
        | false =>
          have hfree : freeP L m av (k : Int) = false := hfr
          clear hfr
          have HF := Lib.hid (show candP L m av (k + 1) = candP L m av k by rw [candP_snoc, if_neg (by rw [hfree]; simp)])
          have J3 := Lib.hid j3; have J4 := Lib.hid j4; have J5 := Lib.hid j5
          clear j3 j4 j5 hfree hb ho
          go_wp2_with (first
            | (go_at_call 21; with_reducible refine (J3.out).mono ?_; rintro e w3 ⟨rfl, hb3⟩)
            | (go_at_call 54; first | (with_reducible refine (J4.out _ hb3).mono ?_; rintro e w4 ⟨rfl, rfl⟩) | (with_reducible refine (J5.out _ hb3).mono ?_; rintro e w5 ⟨rfl, rfl⟩))
            | (at_builtin; refine wpList_push1 rfl _ _ 25 rfl w.heap.size 3 (.int .i64 0) 8 Try.underlying25 infoI rfl _ _ _ rfl (HO.out.later hb3).row _ 1 rfl (by rfl) (by omega) (by omega) (Nat.le_trans HS.out hb3.size) ?_; intro v' w9 hown' hb9 hg9))
          go_roundw
          case rel => exact ⟨k + 1, by omega, by go_num, by rw [HF.out]; exact HO.out.later hb3, HB.out.trans (hb3.mono HB.out.size)⟩
          case measure => simp [intOf]; omega
        | true =>
          generalize decide ((k : Int) ∈ m) = x at *
          cases x with
          | true =>
            have hfree : freeP L m av (k : Int) = false := hfr
            clear hfr
            have HF := Lib.hid (show candP L m av (k + 1) = candP L m av k by rw [candP_snoc, if_neg (by rw [hfree]; simp)])
            have J3 := Lib.hid j3; have J4 := Lib.hid j4; have J5 := Lib.hid j5
            clear j3 j4 j5 hfree hb ho
            go_wp2_with (first
              | (go_at_call 21; with_reducible refine (J3.out).mono ?_; rintro e w3 ⟨rfl, hb3⟩)
              | (go_at_call 54; first | (with_reducible refine (J4.out _ hb3).mono ?_; rintro e w4 ⟨rfl, rfl⟩) | (with_reducible refine (J5.out _ hb3).mono ?_; rintro e w5 ⟨rfl, rfl⟩))
              | (at_builtin; refine wpList_push1 rfl _ _ 25 rfl w.heap.size 3 (.int .i64 0) 8 Try.underlying25 infoI rfl _ _ _ rfl (HO.out.later hb3).row _ 1 rfl (by rfl) (by omega) (by omega) (Nat.le_trans HS.out hb3.size) ?_; intro v' w9 hown' hb9 hg9))
            go_roundw
            case rel => exact ⟨k + 1, by omega, by go_num, by rw [HF.out]; exact HO.out.later hb3, HB.out.trans (hb3.mono HB.out.size)⟩
            case measure => simp [intOf]; omega
          | false =>
            generalize decide ((k : Int) ∈ av) = y at *
            cases y with
            | true =>
              have hfree : freeP L m av (k : Int) = false := hfr
              clear hfr
              have HF := Lib.hid (show candP L m av (k + 1) = candP L m av k by rw [candP_snoc, if_neg (by rw [hfree]; simp)])
              have J3 := Lib.hid j3; have J4 := Lib.hid j4; have J5 := Lib.hid j5
              clear j3 j4 j5 hfree hb ho
              go_wp2_with (first
                | (go_at_call 21; with_reducible refine (J3.out).mono ?_; rintro e w3 ⟨rfl, hb3⟩)
                | (go_at_call 54; first | (with_reducible refine (J4.out _ hb3).mono ?_; rintro e w4 ⟨rfl, rfl⟩) | (with_reducible refine (J5.out _ hb3).mono ?_; rintro e w5 ⟨rfl, rfl⟩))
                | (at_builtin; refine wpList_push1 rfl _ _ 25 rfl w.heap.size 3 (.int .i64 0) 8 Try.underlying25 infoI rfl _ _ _ rfl (HO.out.later hb3).row _ 1 rfl (by rfl) (by omega) (by omega) (Nat.le_trans HS.out hb3.size) ?_; intro v' w9 hown' hb9 hg9))
              go_roundw
              case rel => exact ⟨k + 1, by omega, by go_num, by rw [HF.out]; exact HO.out.later hb3, HB.out.trans (hb3.mono HB.out.size)⟩
              case measure => simp [intOf]; omega
            | false =>
              have hfree : freeP L m av (k : Int) = true := hfr
              have HF := Lib.hid (show candP L m av (k + 1) = candP L m av k ++ [(k : Int)] by rw [candP_snoc, if_pos hfree])
              have J3 := Lib.hid j3; have J4 := Lib.hid j4; have J5 := Lib.hid j5
              obtain ⟨C, hC⟩ : ∃ C, C = candP L m av k := ⟨_, rfl⟩
              rw [← hC] at HF HO hpl
              clear j3 j4 j5 hfree hb ho hfr hC
              go_wp2_with (first
                | (go_at_call 21; with_reducible refine (J3.out).mono ?_; rintro e w3 ⟨rfl, hb3⟩)
                | (go_at_call 54; first | (with_reducible refine (J4.out _ hb3).mono ?_; rintro e w4 ⟨rfl, rfl⟩) | (with_reducible refine (J5.out _ hb3).mono ?_; rintro e w5 ⟨rfl, rfl⟩))
                | (at_builtin; refine wpList_push1 rfl _ _ 25 rfl w.heap.size 3 (.int .i64 0) 8 Try.underlying25 infoI rfl _ _ _ rfl (HO.out.later hb3).row _ 1 rfl (by rfl) (by omega) (by omega) (Nat.le_trans HS.out hb3.size) ?_; intro v' w9 hown' hb9 hg9))
              go_roundw
              case rel => exact ⟨k + 1, by omega, by go_num, by rw [HF.out]; exact OwnI.snoc hown', (HB.out.trans (hb3.mono HB.out.size)).trans hb9⟩
              case measure => simp [intOf]; omega
      · obtain rfl : k = 5 := by omega
        by_cases h0 : (candP L m av 5).length = 0
        · have HF := Lib.hid (spareP_none (L := L) (m := m) (a := av) (List.eq_nil_of_length_eq_zero h0))
          rw [List.eq_nil_of_length_eq_zero h0] at ho
          obtain ⟨y, q, rfl⟩ := ho.shape
          clear ho hb h0
          go_wp2_with fail
          go_ret
          exact ⟨by rw [HF.out]; rfl, HB.out⟩
        · have hc5 := candP_len L m av 5
          have HCS := Lib.hid (show ∀ x ∈ candP L m av 5, 0 ≤ x ∧ x < 5 from fun x hx => (candP_mem.1 hx).1)
          have HFST := Lib.hid (fun T hp hs h1 => spareP_first (L := L) (m := m) (a := av) HM2.out (T := T) hp hs h1)
          have HL5 := Lib.hid (show L.length = 5 by
            cases hC : candP L m av 5 with
            | nil => rw [hC] at h0; exact absurd rfl h0
            | cons x r =>
              have hx : x ∈ candP L m av 5 := by rw [hC]; simp
              have h1 := (free_parts (candP_mem.1 hx).2).1
              unfold roomP at h1
              cases h3 : arePl L with
              | false => rw [h3] at h1; cases h1
              | true => exact arePl_len h3)
          obtain ⟨g, q, rfl, _, _, hbg, hlg⟩ := ho.there (by omega)
          have hR := racksP_len L m
          have J6 := Lib.hid (implRacksOfA a cp L ym qm m wr hl hm (HA.out.later hb) (HMA.out.later hb))
          have HO := Lib.hid ho
          generalize candP L m av 5 = C at *
          have tl : ((C.length : Int) == 0) = false := by rw [beq_eq_false_iff_ne]; omega
          have tl' : (C.length == 0) = false := by rw [beq_eq_false_iff_ne]; exact h0
          have H0 := Lib.hid h0
          clear ho hb h0
          go_wp2_with (go_at_call 26; with_reducible refine (J6.out).mono ?_; rintro e w3 ⟨vR, rfl, hoR, hb3⟩; obtain ⟨yR, qR, rfl, _, _, _, hRblk⟩ := hoR.form)
          have hAr := HA.out.later (HB.out.trans (hb3.mono HB.out.size))
          have J7 := Lib.hid (implSpareOrder a cp L _ yR qR (racksP L m) w3 hAr hoR)
          refine J7.out.mono ?_
          rintro e w4 ⟨p2, p3, p5, rfl, h2, h3, h5, hcl, hb4⟩
          have hs3 := hb3.size
          have HO4 := Lib.hid ((HO.out.later hb3).later hb4)
          have J8 := Lib.hid (sortSpares hcl HL5.out (by omega) g q w.heap.size C HCS.out (by have := H0.out; omega) hc5 HO4.out (by omega) (by omega) (by omega)
            (fun x hx hp => by have := HAL.out x hx hp; omega) (fun x hx => by have := (hRblk x hx).1; omega))
          have HB4 := Lib.hid ((HB.out.trans (hb3.mono HB.out.size)).trans (hb4.mono (Nat.le_trans HB.out.size hs3)))
          clear hAr J7 hcl h2 h3 h5 hoR hRblk hs3
          go_wp2_with fail
          refine J8.out.mono ?_
          rintro e w5 ⟨rfl, T, hT, hTs, hTc, hTg⟩
          have HF := Lib.hid (HFST.out T hT hTs (by rw [hT.length_eq]; have := H0.out; omega))
          have HB5 := Lib.hid (HB4.out.grown hTg HB4.out.size (fun k hk => by cases hk; exact hbg))
          have k5 : (0 : Int) < (C.length : Int) := by have := H0.out; omega
          have k6 : 0 < C.length := by have := H0.out; omega
          generalize T.getD 0 0 = s at *
          clear hT hTs hTg J8
          go_wp2_with fail
          go_ret
          exact ⟨by rw [← HF.out]; rfl, HB5.out⟩
theorem implPickSpare (b1 : Nat) (v1 : Value) (L : List Pla) (b2 : Nat) (v2 : Value) (m : List Int) (b3 : Nat) (v3 : Value) (av : List Int) (w : World) (h1 : L.length ≤ 2097152) (o1 : OwnQ b1 w v1 L) (h2 : m.length ≤ 4194304) (o2 : OwnI b2 w v2 m) (h3 : av.length ≤ 4194304) (o3 : OwnI b3 w v3 av) :
    Calls Try.prog 24 #[v1, v2, v3] w fun e w' => e = .returned (.int .i64 (spareP L m av)) ∧ Below w.heap.size w w' := by
  obtain ⟨a1, c1, rfl, _, _, at1, _⟩ := o1.form
  exact implPickSpareA a1 c1 L b2 v2 m b3 v3 av w h1 h2 h3 at1 o2 o3
set_option maxRecDepth 100000 in
set_option maxHeartbeats 4000000 in
theorem implIsSpreadA (a : Option Addr) (cp : Nat) (L : List Pla) (b : Option Addr) (cb : Nat) (m : List Int) (w : World) (hl : L.length ≤ 2097152) (hm : m.length ≤ 4194304) (ha : AtQ w a L) (hb : At w b m) :
    Calls Try.prog 28 #[.slice a L.length cp, .slice b m.length cb] w fun e w' => e = .returned (.bool (spreadP L m)) ∧ Below w.heap.size w w' := by
  have j1 := implArePlacesA a cp L w hl ha
  have j2 := fun W (hd : Below w.heap.size w W) => implAre_any b cb m W hm (hb.later hd)
  have j3 := fun W (hd : Below w.heap.size w W) => implRacksOfA a cp L b cb m W hl hm (ha.later hd) (hb.later hd)
  have hf : spreadP L m = (arePl L && (are m && decide ((racksP L m).length = m.length))) := rfl
  generalize arePl L = x at *
  generalize are m = y at *
  generalize racksP L m = P at *
  clear ha hb
  cases x with
  | false =>
    have HF := Lib.hid (show spreadP L m = false from hf)
    have J1 := Lib.hid j1; have J2 := Lib.hid j2; have J3 := Lib.hid j3
    clear hf j1 j2 j3
    go_enter Try.func28, Try.ntmps28
    go_wp2_with (first
      | (go_at_call 32; with_reducible refine (J1.out).mono ?_; rintro e w1 ⟨rfl, hb1⟩)
      | (go_at_call 45; with_reducible refine (J2.out _ hb1).mono ?_; rintro e w2 ⟨rfl, hb2⟩; have hw2 := hb1.trans (hb2.mono hb1.size))
      | (go_at_call 26; with_reducible refine (J3.out _ hw2).mono ?_; rintro e w3 ⟨v3, rfl, ho3, hb3⟩; obtain ⟨y3, q3, rfl⟩ := ho3.shape))
    go_ret
    exact ⟨by rw [HF.out]; rfl, hb1⟩
  | true =>
    cases y with
    | false =>
      have HF := Lib.hid (show spreadP L m = false from hf)
      have J1 := Lib.hid j1; have J2 := Lib.hid j2; have J3 := Lib.hid j3
      clear hf j1 j2 j3
      go_enter Try.func28, Try.ntmps28
      go_wp2_with (first
        | (go_at_call 32; with_reducible refine (J1.out).mono ?_; rintro e w1 ⟨rfl, hb1⟩)
        | (go_at_call 45; with_reducible refine (J2.out _ hb1).mono ?_; rintro e w2 ⟨rfl, hb2⟩; have hw2 := hb1.trans (hb2.mono hb1.size))
        | (go_at_call 26; with_reducible refine (J3.out _ hw2).mono ?_; rintro e w3 ⟨v3, rfl, ho3, hb3⟩; obtain ⟨y3, q3, rfl⟩ := ho3.shape))
      go_ret
      exact ⟨by rw [HF.out]; rfl, hw2⟩
    | true =>
      have hf' : spreadP L m = decide (P.length = m.length) := hf
      clear hf
      by_cases hq : P.length = m.length
      · have HF := Lib.hid (hf'.trans (decide_eq_true hq))
        have t1 : ((P.length : Int) == (m.length : Int)) = true := by rw [beq_iff_eq, hq]
        have t2 : (P.length == m.length) = true := by rw [beq_iff_eq, hq]
        have J1 := Lib.hid j1; have J2 := Lib.hid j2; have J3 := Lib.hid j3
        clear hf' j1 j2 j3 hq
        go_enter Try.func28, Try.ntmps28
        go_wp2_with (first
          | (go_at_call 32; with_reducible refine (J1.out).mono ?_; rintro e w1 ⟨rfl, hb1⟩)
          | (go_at_call 45; with_reducible refine (J2.out _ hb1).mono ?_; rintro e w2 ⟨rfl, hb2⟩; have hw2 := hb1.trans (hb2.mono hb1.size))
          | (go_at_call 26; with_reducible refine (J3.out _ hw2).mono ?_; rintro e w3 ⟨v3, rfl, ho3, hb3⟩; obtain ⟨y3, q3, rfl⟩ := ho3.shape))
        go_ret
        exact ⟨by rw [HF.out]; rfl, hw2.trans (hb3.mono hw2.size)⟩
      · have HF := Lib.hid (hf'.trans (decide_eq_false hq))
        have t1 : ((P.length : Int) == (m.length : Int)) = false := by rw [beq_eq_false_iff_ne]; omega
        have t2 : (P.length == m.length) = false := by rw [beq_eq_false_iff_ne]; exact hq
        have J1 := Lib.hid j1; have J2 := Lib.hid j2; have J3 := Lib.hid j3
        clear hf' j1 j2 j3 hq
        go_enter Try.func28, Try.ntmps28
        go_wp2_with (first
          | (go_at_call 32; with_reducible refine (J1.out).mono ?_; rintro e w1 ⟨rfl, hb1⟩)
          | (go_at_call 45; with_reducible refine (J2.out _ hb1).mono ?_; rintro e w2 ⟨rfl, hb2⟩; have hw2 := hb1.trans (hb2.mono hb1.size))
          | (go_at_call 26; with_reducible refine (J3.out _ hw2).mono ?_; rintro e w3 ⟨v3, rfl, ho3, hb3⟩; obtain ⟨y3, q3, rfl⟩ := ho3.shape))
        go_ret
        exact ⟨by rw [HF.out]; rfl, hw2.trans (hb3.mono hw2.size)⟩
theorem implIsSpread (b1 : Nat) (v1 : Value) (L : List Pla) (b2 : Nat) (v2 : Value) (m : List Int) (w : World) (h1 : L.length ≤ 2097152) (o1 : OwnQ b1 w v1 L) (h2 : m.length ≤ 4194304) (o2 : OwnI b2 w v2 m) :
    Calls Try.prog 28 #[v1, v2] w fun e w' => e = .returned (.bool (spreadP L m)) ∧ Below w.heap.size w w' := by
  obtain ⟨a1, c1, rfl, _, _, at1, _⟩ := o1.form
  obtain ⟨a2, c2, rfl, _, _, at2, _⟩ := o2.form
  exact implIsSpreadA a1 c1 L a2 c2 m w h1 h2 at1 at2
end Go.Proofs.Ytpdpejlcilnafaa.kit
