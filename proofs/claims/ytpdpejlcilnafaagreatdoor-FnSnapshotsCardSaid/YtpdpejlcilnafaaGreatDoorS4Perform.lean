/-
  Chapter 4: impl's performOp: the object changed in place.
-/
import Derived.Test.YtpdpejlcilnafaaGreatDoorS4Plain
namespace Go.Proofs.YtpdpejlcilnafaaGreatDoor.kit
open Go.ChangeShapes Go.WideShapes Go.ChangeAt Go.RowKit
set_option linter.unusedVariables false

theorem OwnI.storedAt {b g cap : Nat} {w : World} {L : List Int} (h : OwnI b w (.slice (some ⟨g, 0, none⟩) L.length cap) L) (n : Nat) (hn : n < L.length) (x : Int) :
    OwnI b (w.setCell ⟨g, n, none⟩ (.int .i64 x)) (.slice (some ⟨g, 0, none⟩) L.length cap) (L.set n x) ∧ w.grownBy (w.setCell ⟨g, n, none⟩ (.int .i64 x)) (some g) := by
  have h2 := h.row.stored n (.int .i64 x)
  refine ⟨OwnI.of (n := L.length) h2.1 ?_, h2.2⟩
  rw [List.map_set]
theorem ownI_off {b g cap : Nat} {w : World} {L : List Int} (h : OwnI b w (.slice (some ⟨g, 0, none⟩) L.length cap) L) {a : Addr} (ha : g ≠ a.block) (u : Value) : OwnI b (w.setCell a u) (.slice (some ⟨g, 0, none⟩) L.length cap) L :=
  ownsRow_setCell_other h (fun e => ha (by cases e; rfl)) u
theorem grown_off {w w1 : World} {r : Option Nat} (h : w.grownBy w1 r) {a : Addr} (ha : w.heap.size ≤ a.block) (u : Value) : w.grownBy (w1.setCell a u) r :=
  ⟨h.os, h.tape, h.output, by simpa using h.size, fun k hk hr => (Below.heap_setCell _ _ _ _ (by omega)).trans (h.block k hk hr)⟩
theorem below_grownBy {w w1 : World} (h : Below w.heap.size w w1) (r : Option Nat) : w.grownBy w1 r := ⟨h.os, h.tape, h.output, h.size, fun k hk _ => h.block k hk⟩
theorem two_allocs (w : World) (x y : Obj) : Below w.heap.size w ((w.alloc x).alloc y) := ((Below.refl _ _).alloc (Nat.le_refl _) _).alloc (by simp) _
/-- whether a valid operation is done -/
def doneO (k d old : Int) : Bool := (k == 1) || (old == d)
def setO (L : List Int) (n : Nat) (k d v : Int) : List Int := if doneO k d (L.getD n 0) then L.set n v else L
theorem setO_len (L : List Int) (n : Nat) (k d v : Int) : (setO L n k d v).length = L.length := by unfold setO; split <;> simp
set_option maxRecDepth 100000 in
set_option maxHeartbeats 4000000 in
theorem performOp (b g cap : Nat) (L : List Int) (c s k d v : Int) (n : Nat) (w : World) (h1 : L.length ≤ 4194304) (o1 : OwnI b w (.slice (some ⟨g, 0, none⟩) L.length cap) L) (hn : n < L.length) (hk : k = 1 ∨ k = 2) :
    Calls Tryz.prog 103 #[.slice (some ⟨g, 0, none⟩) L.length cap, opV c s k n d v] w fun e w' => e = .returned (.agg #[.bool (doneO k d (L.getD n 0)), .int .i64 (L.getD n 0)]) ∧
      OwnI b w' (.slice (some ⟨g, 0, none⟩) L.length cap) (setO L n k d v) ∧ w.grownBy w' (some g) := by
  have hg := (o1.block g rfl).2
  have hcell : w.cell? ⟨g, n, none⟩ = some (.int .i64 (L.getD n 0)) := by
    rw [o1.row.cellAt n (by omega), List.getElem?_map, List.getElem?_eq_getElem hn]; simp [List.getD, hn]
  have hfr : w.frozen? ⟨g, n, none⟩ = false := o1.row.frozenAt n
  have hset : setO L n k d v = if doneO k d (L.getD n 0) then L.set n v else L := rfl
  have HO := Lib.hid o1
  have HN := Lib.hid hn
  have hne1 : g ≠ w.heap.size := by omega
  have hne2 : g ≠ w.heap.size + 1 := by omega
  clear o1 hn
  generalize hx : L.getD n 0 = x at hcell hset ⊢
  clear hx
  have hdone : k = 1 ∨ (k = 2 ∧ (x == d) = true) ∨ (k = 2 ∧ (x == d) = false) := by
    rcases hk with h | h
    · exact .inl h
    · cases h2 : (x == d)
      · exact .inr (.inr ⟨h, rfl⟩)
      · exact .inr (.inl ⟨h, rfl⟩)
  clear hk
  rcases hdone with rfl | ⟨rfl, hxd⟩ | ⟨rfl, hxd⟩
  · have hd : doneO 1 d x = true := by unfold doneO; rfl
    rw [hd] at hset ⊢
    have HE := Lib.hid (show setO L n 1 d v = L.set n v from hset)
    clear hset hd
    unfold opV
    go_enter Tryz.func103, Tryz.ntmps103
    go_wp2_with fail
    refine bodyPost_ret (v := .agg #[.bool true, .int .i64 x]) (by simp [results, Tryz.results103, go_sem]) rfl ⟨rfl, ?_, ?_⟩
    · rw [HE.out]
      exact (HO.out.storedAt n HN.out v).1.later (two_allocs _ _ _)
    · exact gtrans (HO.out.storedAt n HN.out v).2 (below_grownBy (two_allocs _ _ _) _)
  · have hd : doneO 2 d x = true := by unfold doneO; rw [hxd]; rfl
    rw [hd] at hset ⊢
    have HE := Lib.hid (show setO L n 2 d v = L.set n v from hset)
    clear hset hd
    unfold opV
    go_enter Tryz.func103, Tryz.ntmps103
    go_wp2_with fail
    refine bodyPost_ret (v := .agg #[.bool true, .int .i64 x]) (by simp [results, Tryz.results103, go_sem]) rfl ⟨rfl, ?_, ?_⟩
    · rw [HE.out]
      exact (HO.out.storedAt n HN.out v).1.later (two_allocs _ _ _)
    · exact gtrans (HO.out.storedAt n HN.out v).2 (below_grownBy (two_allocs _ _ _) _)
  · have hd : doneO 2 d x = false := by unfold doneO; rw [hxd]; rfl
    rw [hd] at hset ⊢
    have HE := Lib.hid (show setO L n 2 d v = L from hset)
    clear hset hd
    unfold opV
    go_enter Tryz.func103, Tryz.ntmps103
    go_wp2_with fail
    refine bodyPost_ret (v := .agg #[.bool false, .int .i64 x]) (by simp [results, Tryz.results103, go_sem]) rfl ⟨rfl, ?_, ?_⟩
    · rw [HE.out]
      exact HO.out.later (two_allocs _ _ _)
    · exact below_grownBy (two_allocs _ _ _) _
end Go.Proofs.YtpdpejlcilnafaaGreatDoor.kit
