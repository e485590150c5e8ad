/-
  Chapter 4: the library's sort at sessions, by impl's own comparison.
-/
import Derived.Test.YtpdpejlcilnafaaGreatDoorSortLay
import Derived.Test.YtpdpejlcilnafaaGreatDoorShelf
import Derived.Test.YtpdpejlcilnafaaGreatDoorS4Map
import Derived.Sort.OwnSortedInts
namespace Go.Proofs.YtpdpejlcilnafaaGreatDoor.kit
open Go.ChangeShapes Go.WideShapes Go.ChangeAt Go.RowKit Go.Maps Go.Sort Go.Shelf
set_option linter.unusedVariables false

theorem ltClient (x y : Sess) : ltOf (fun x y : Sess => Lib.compareInt x.1 y.1) x y = decide (x.1 < y.1) := by
  unfold ltOf Lib.compareInt
  by_cases h1 : x.1 < y.1
  · simp [h1]
  · by_cases h2 : y.1 < x.1 <;> simp [h1, h2]
theorem swoClient : SWO (ltOf fun x y : Sess => Lib.compareInt x.1 y.1) where
  irrefl x := by rw [ltClient]; simp
  trans x y z h1 h2 := by rw [ltClient] at *; simp at *; omega
  ntrans x y z h1 h2 := by rw [ltClient] at *; simp at *; omega
theorem flat_get (l : List Sess) (t : Nat) (ht : t < l.length * 4) : (cellsS l)[t]? = some ((flatK sessC 4 l.toArray)[t]!) := by
  have hq : t / 4 < l.length := by omega
  have hr : t % 4 < 4 := Nat.mod_lt _ (by omega)
  have e : t = t / 4 * 4 + t % 4 := by omega
  rw [get_flatK _ _ _ _ (by simpa using ht)]
  conv => lhs; rw [e]
  rw [cellsS_at l (t / 4) hq (t % 4) hr]
  have h1 : l.toArray[t / 4]! = sg l (t / 4) := by simp [sg, List.getD, hq]
  rw [h1]
  have hl : t % 4 < (sessC (sg l (t / 4))).length := by simpa [sessC] using hr
  rw [List.getElem?_eq_getElem hl, getElem!_pos (sessC (sg l (t / 4))) (t % 4) hl]
theorem flat_list (l : List Sess) : (flatK sessC 4 l.toArray).toList = cellsS l := by
  apply List.ext_getElem?
  intro t
  by_cases ht : t < l.length * 4
  · rw [flat_get l t ht, Array.getElem?_toList, Array.getElem?_eq_getElem (by simpa using ht), getElem!_pos _ _ (by simpa using ht)]
  · rw [List.getElem?_eq_none (by simp; omega), List.getElem?_eq_none (by rw [cellsS_len]; omega)]
theorem holds_sess {b g cap : Nat} {w : World} {l : List Sess} (h : OwnS b w (.slice (some ⟨g, 0, none⟩) l.length cap) l) : HoldsK sessC 4 w g 0 l.toArray := by
  intro t ht
  have ht' : t < l.length * 4 := by simpa using ht
  rw [Nat.zero_add]
  exact ⟨by rw [h.row.cellAt t ht', flat_get l t ht']; rfl, h.row.frozenAt t⟩
theorem heap_sortedV {w : World} {g n : Nat} {os : Array Obj} {cur : Array Value} {e : TypeId} {fr : Nat × Nat} (d : Array Value) (hb : w.heap[g]? = some (.cells cur e fr)) :
    (grow (putRow id (Sort.ahead w n) g 0 d) os).heap[g]? = some (.cells (putCells id 0 d cur) e fr) := by
  have hg : g < w.heap.size := (Array.getElem?_eq_some_iff.1 hb).1
  rw [heap_grow_old _ _ (by simpa using hg)]
  simp [putRow, mapBlock, Sort.ahead, Array.getElem?_modify, hb, onCells]
theorem grownBy_sortedV {w : World} {g n : Nat} {os : Array Obj} (d : Array Value) : w.grownBy (grow (putRow id (Sort.ahead w n) g 0 d) os) (some g) := by
  refine ⟨rfl, rfl, rfl, by simp, fun k hk hne => ?_⟩
  rw [heap_grow_old _ _ (by simpa using hk)]
  have : g ≠ k := fun e => hne (by rw [e])
  simp [putRow, mapBlock, Sort.ahead, Array.getElem?_modify, this]
theorem take_putCellsV (cur d : Array Value) (h : d.size ≤ cur.size) : (putCells id 0 d cur).toList.take d.size = d.toList := by
  apply List.ext_getElem?
  intro j
  by_cases hj : j < d.size
  · rw [List.getElem?_take_of_lt hj, Array.getElem?_toList]
    simp [putCells, hj, show j < cur.size by omega]
  · rw [List.getElem?_take_eq_none (by omega), List.getElem?_eq_none (by simp; omega)]
theorem own_sorted {w : World} {b g cap n : Nat} {os : Array Obj} {ss ts : List Sess} (hl : ts.length = ss.length) (h : OwnS b w (.slice (some ⟨g, 0, none⟩) ss.length cap) ss) :
    OwnS b (sortWorldK sessC 4 w g 0 n ts.toArray os) (.slice (some ⟨g, 0, none⟩) ss.length cap) ts ∧ w.grownBy (sortWorldK sessC 4 w g 0 n ts.toArray os) (some g) := by
  refine ⟨?_, grownBy_sortedV _⟩
  rcases h.row.2 with ⟨h0, _⟩ | ⟨g', c, cur, hv, hg, hh, hn, hm, hcs, _⟩
  · cases h0
  cases hv
  have hsz : (flatK sessC 4 ts.toArray).size = ss.length * 4 := by simp [hl]
  refine OwnS.of (n := ss.length) (cs := (flatK sessC 4 ts.toArray).toList) ⟨by simpa using hsz, .inr ⟨g, cap, _, rfl, hg, heap_sortedV _ hh, hn, hm, by simp [putCells, hcs], ?_⟩⟩ (flat_list ts)
  rw [← hsz]
  exact take_putCellsV cur _ (by omega)
set_option maxHeartbeats 1000000 in
theorem closureS (x y : Sess) (W : World) : Calls Tryz.prog 127 #[.agg #[.int .i64 x.1, .int .i64 x.2.1, .bool x.2.2.1, .int .i64 x.2.2.2], .agg #[.int .i64 y.1, .int .i64 y.2.1, .bool y.2.2.1, .int .i64 y.2.2.2]] W fun e w' => e = .returned (.int .i64 (Lib.compareInt x.1 y.1)) ∧ ∃ q os', w' = grow (W.drewN q) os' := by
  have hcon := fun W' => Tryz.cmp_Compare_int x.1 y.1 W'
  generalize Lib.compareInt x.1 y.1 = r at hcon ⊢
  obtain ⟨x1, x2, x3, x4⟩ := x
  obtain ⟨y1, y2, y3, y4⟩ := y
  simp only at hcon ⊢
  go_enter Tryz.func127, Tryz.ntmps127
  go_wp2_with (go_at_call 128; refine (hcon _).mono ?_; rintro e w' ⟨rfl, rfl⟩)
  go_ret
  exact ⟨rfl, 0, _, by rw [alloc_eq_grow, alloc_eq_grow, grow_grow]; rfl⟩
theorem sortsS : SortsS := by
  intro b v ss W hlen hv ho hb
  have hsh : ∃ g cap, v = .slice (some ⟨g, 0, none⟩) ss.length cap ∧ g < W.heap.size ∧ b ≤ g := by
    rcases ho.row.2 with ⟨h0, _⟩ | ⟨g, c, cur, rfl, hg, hh, hn, hm, hcs, _⟩
    · exact absurd h0 hv
    · exact ⟨g, c, rfl, (Array.getElem?_eq_some_iff.1 hh).1, hg⟩
  obtain ⟨g, cap, rfl, hg, hbg⟩ := hsh
  have eg : ∀ args w, (callFunc 127 args).run Tryz.prog w = .ok (.enter 127 args) w := enters_of Tryz.func127 (by kernel_rfl) rfl
  have hcon := AnyQ.slices_SortFunc Tryz.sortSess 4 Tryz.isAgg120 Tryz.sizeOf120 sessC (fun _ => rfl) (fun x v hv => by simp [sessC] at hv; rcases hv with rfl | rfl | rfl | rfl <;> rfl) (fun x y => Lib.compareInt x.1 y.1) swoClient 127 #[] g 0 cap ss.toArray W eg
    (fun _ _ _ _ x y => closureS x y _) (holds_sess ho) hg (by simp; omega)
  rw [List.size_toArray] at hcon
  refine (hcon).mono ?_
  rintro e w' ⟨rfl, d', n, os, hp, hs, rfl⟩
  obtain ⟨hsz, _, hpm⟩ := hp
  have hsz' : d'.size = ss.length := by simpa using hsz
  have hown := own_sorted (n := n) (os := os) (ts := d'.toList) (by simpa using hsz') ho
  refine ⟨rfl, d'.toList, ?_, ?_, by simpa using hown.1, ?_⟩
  · have h1 : d'.extract 0 ss.length = d' := by rw [← hsz']; simp
    rw [h1] at hpm
    simpa using hpm
  · rw [List.pairwise_iff_getElem]
    intro i j hi hj hij
    have h2 := hs i j (Nat.zero_le _) hij (by simp at hj; omega)
    rw [ltClient] at h2
    have hi' : i < d'.size := by simpa using hi
    have hj' : j < d'.size := by simpa using hj
    rw [getElem!_pos d' i hi', getElem!_pos d' j hj'] at h2
    simp at h2 ⊢
    exact h2
  · have hg2 := hown.2
    simp at hg2
    exact ⟨hg2.os, hg2.tape, hg2.output, hg2.size, fun k hk => hg2.block k (by omega) (fun e => by cases e; omega)⟩
end Go.Proofs.YtpdpejlcilnafaaGreatDoor.kit
