/-
  Draws of chapters 1 to 5 (merged text).
-/
import Derived.Test.YtgjebjoaemeeoaaGreatDoorC1Fixed
import Derived.Maps.AppendAt
import Derived.Test.YtgjebjoaemeeoaaGreatDoorInts
import Derived.Test.YtgjebjoaemeeoaaGreatDoorKept
import Derived.Deep.DeepCutAuto
import Derived.Deep.RegionWith
import Derived.Test.YtgjebjoaemeeoaaGreatDoorS3Plain
import Derived.Test.YtgjebjoaemeeoaaGreatDoorS4Tab
import Derived.Test.YtgjebjoaemeeoaaGreatDoorS4SpecB
import Derived.Test.YtgjebjoaemeeoaaGreatDoorS4SpecC
import Derived.Test.YtgjebjoaemeeoaaGreatDoorMach
import Derived.Handy
import Derived.Test.YtgjebjoaemeeoaaGreatDoorInvK
import Derived.Test.YtgjebjoaemeeoaaGreatDoorS4Rows
import Derived.Test.YtgjebjoaemeeoaaGreatDoorBoxC
import Derived.Test.YtgjebjoaemeeoaaGreatDoorInvT
import Derived.Test.YtgjebjoaemeeoaaGreatDoorS4Perform
import Derived.Test.YtgjebjoaemeeoaaGreatDoorEnts2
import Derived.Deep.RegionLaw
import Derived.Deep.RegionLawGrows
namespace Go.Proofs.YtgjebjoaemeeoaaGreatDoor.kit
open Go.ChangeShapes Go.WideShapes Go.ChangeAt Go.RowKit
set_option linter.unusedVariables false

theorem and255 (y : Int) : 0 ≤ bits .and .i64 y 255 ∧ bits .and .i64 y 255 ≤ 255 := by
  have h : (BitVec.ofInt 64 y &&& BitVec.ofInt 64 255).toNat ≤ 255 := by
    rw [BitVec.toNat_and]
    exact Nat.and_le_right
  show 0 ≤ IntKind.i64.wrap ((BitVec.ofInt 64 y &&& BitVec.ofInt 64 255).toNat : Int) ∧ IntKind.i64.wrap ((BitVec.ofInt 64 y &&& BitVec.ofInt 64 255).toNat : Int) ≤ 255
  rw [IntKind.wrap_i64]
  omega
theorem block_add (a : Addr) (n : Nat) : (a.add n).block = a.block := by unfold Addr.add; split <;> rfl
/-- a store into one cell of a block that is known whole -/
theorem blk_set {w : World} {g : Nat} {cs : Array Value} {t : TypeId} (hb : w.heap[g]? = some (.cells cs t (0, 0))) (j : Nat) (u : Value) : (w.setCell ⟨g, j, none⟩ u).heap[g]? = some (.cells (cs.setIfInBounds j u) t (0, 0)) := by
  simp [World.setCell, Array.getElem?_modify, hb]
theorem grown_set {a w : World} {g : Nat} (h : a.grownBy w (some g)) (j : Nat) (u : Value) : a.grownBy (w.setCell ⟨g, j, none⟩ u) (some g) :=
  ⟨h.os, h.tape, h.output, by simpa [World.setCell] using h.size, fun k hk hne => (Below.heap_setCell w ⟨g, j, none⟩ u k (fun e => hne (by rw [e]))).trans (h.block k hk hne)⟩
theorem grown_drewN {a w : World} {row : Option Nat} (h : a.grownBy w row) (n : Nat) : a.grownBy (w.drewN n) row := ⟨h.os, h.tape, h.output, h.size, h.block⟩
theorem grown_refl (w : World) (row : Option Nat) : w.grownBy w row := ⟨rfl, rfl, rfl, Nat.le_refl _, fun _ _ _ => rfl⟩
theorem grown_tr {a b c : World} {row : Option Nat} (h : a.grownBy b row) (k : b.grownBy c row) : a.grownBy c row :=
  ⟨k.os.trans h.os, k.tape.trans h.tape, k.output.trans h.output, Nat.le_trans h.size k.size, fun i hi hne => (k.block i (Nat.lt_of_lt_of_le hi h.size) hne).trans (h.block i hi hne)⟩
theorem grown_below {a w w' : World} {B g : Nat} (h : Below B a w) (k : w.grownBy w' (some g)) (hB : B ≤ w.heap.size) (hg : B ≤ g) : Below B a w' :=
  h.grown k hB (fun j hj => by cases hj; exact hg)
theorem IsRow.grown {w w' : World} {g : Nat} {a : Option Addr} {len cap : Nat} {zs : List Int} (h : IsRow .u8 w a len cap zs) (hg : w.grownBy w' (some g)) (hlow : ∀ x, a = some x → 0 < zs.length → x.block < g) (hgs : g < w.heap.size) : IsRow .u8 w' a len cap zs := by
  rcases h with h | ⟨x, hx, h1, h2, h3, h4, h5⟩
  · exact .inl h
  · refine .inr ⟨x, hx, h1, h2, h3, fun i hi => ?_, h5⟩
    have hb : (x.add i).block < g := by rw [block_add]; exact hlow x hx (by omega)
    rw [World.cell?_of_block (hg.block (x.add i).block (by omega) (fun e => by have := Option.some.inj e; omega))]
    exact h4 i hi
/-- block g is a cursor over bytes that came in -/
def Cur (g : Nat) (w : World) : Prop := ∃ (A : Option Addr) (len cap : Nat) (zs : List Int) (i : Nat) (h : Int), i ≤ len ∧
  w.heap[g]? = some (.cells #[.slice A len cap, .int .i64 i, .int .i64 h] 114 (0, 0)) ∧ IsRow .u8 w A len cap zs ∧ (∀ x, A = some x → 0 < zs.length → x.block < g)
theorem Cur.lt {g : Nat} {w : World} (h : Cur g w) : g < w.heap.size := by
  obtain ⟨A, len, cap, zs, i, h, _, hb, _⟩ := h
  exact (Array.getElem?_eq_some_iff.1 hb).1
/-- what a draw leaves: it has written into the cursor's block alone -/
def Drew (g : Nat) (w w' : World) : Prop := w.grownBy w' (some g) ∧ Cur g w'
set_option maxHeartbeats 1000000 in
theorem byte_more (g : Nat) (x : Addr) (len cap i : Nat) (h z : Int) (w : World) (hi : i < len) (hlen : len ≤ 9223372036854775807)
    (hb : w.heap[g]? = some (.cells #[.slice (some x) len cap, .int .i64 i, .int .i64 h] 114 (0, 0))) (hz : w.cell? (x.add i) = some (.int .u8 z)) (hz0 : 0 ≤ z) (hz1 : z ≤ 255) (hx : x.block < g) :
    Calls Tryz.prog 90 #[.pointer (some ⟨g, 0, none⟩)] w fun e w' => ∃ y : Int, e = .returned (.int .i64 y) ∧ 0 ≤ y ∧ y ≤ 255 ∧ w.grownBy w' (some g) ∧ ∃ h2 : Int, w'.heap[g]? = some (.cells #[.slice (some x) len cap, .int .i64 ((i + 1 : Nat) : Int), .int .i64 h2] 114 (0, 0)) := by
  have c0 : w.cell? ⟨g, 0, none⟩ = some (.slice (some x) len cap) := by rw [cell_of_row w g 0 _ _ _ hb]; rfl
  have c1 : w.cell? ⟨g, 1, none⟩ = some (.int .i64 i) := by rw [cell_of_row w g 1 _ _ _ hb]; rfl
  have c2 : w.cell? ⟨g, 2, none⟩ = some (.int .i64 h) := by rw [cell_of_row w g 2 _ _ _ hb]; rfl
  have f1 : w.frozen? ⟨g, 1, none⟩ = false := by simp [World.frozen?, hb]
  have f2 : w.frozen? ⟨g, 2, none⟩ = false := by simp [World.frozen?, hb]
  go_enter Tryz.func90, Tryz.ntmps90
  go_wp2_with fail
  generalize wrap64 (wrap64 (h * 6364136223846793005) + 1442695040888963407) = h2
  have hb2 := blk_set hb 2 (.int .i64 h2)
  have hg2 := grown_set (grown_refl w (some g)) 2 (.int .i64 h2)
  have hz2 : (w.setCell ⟨g, 2, none⟩ (.int .i64 h2)).cell? (x.add i) = some (.int .u8 z) := (World.cell?_of_block (Below.heap_setCell w ⟨g, 2, none⟩ _ (x.add i).block (by rw [block_add]; show x.block ≠ g; omega))).trans hz
  clear c0 c1 c2 f1 f2 hb
  generalize w.setCell ⟨g, 2, none⟩ (.int .i64 h2) = W at *
  have c0 : W.cell? ⟨g, 0, none⟩ = some (.slice (some x) len cap) := by rw [cell_of_row W g 0 _ _ _ hb2]; rfl
  have c1 : W.cell? ⟨g, 1, none⟩ = some (.int .i64 i) := by rw [cell_of_row W g 1 _ _ _ hb2]; rfl
  have c2 : W.cell? ⟨g, 2, none⟩ = some (.int .i64 h2) := by rw [cell_of_row W g 2 _ _ _ hb2]; rfl
  have HB2 := Lib.hid hb2
  have HZ2 := Lib.hid hz2
  clear hb2 hz2 hz
  go_quiet (fail)
  have hx0 := and255 (bits BinOp.xor IntKind.i64 (h2 / 8589934592) (h2 / 35184372088832))
  generalize bits BinOp.and IntKind.i64 (bits BinOp.xor IntKind.i64 (h2 / 8589934592) (h2 / 35184372088832)) 255 = x0 at *
  go_wp2_with fail
  have hi2 : (i : Int) < (len : Int) := by omega
  go_quiet (fail)
  go_wp2_with fail
  have hs1 : IntKind.i64.wrap z = z := IntWalk.i64_in _ (by omega)
  have hs2 : IntKind.i64.wrap (x0 + z) = x0 + z := IntWalk.i64_in _ (by omega)
  have hz2 := HZ2.out
  go_quiet (fail)
  clear hs1 hs2
  have hx1 := and255 (x0 + z)
  generalize bits BinOp.and IntKind.i64 (x0 + z) 255 = x1 at *
  have f1 : W.frozen? ⟨g, 1, none⟩ = false := by have := HB2.out; simp [World.frozen?, this]
  go_wp2_with fail
  go_ret
  refine ⟨x1, rfl, hx1.1, hx1.2, grown_drewN (grown_set hg2 1 _) _, h2, ?_⟩
  exact blk_set HB2.out 1 _
set_option maxHeartbeats 1000000 in
theorem byte_end (g : Nat) (A : Option Addr) (len cap i : Nat) (h : Int) (w : World) (hi : len ≤ i) (hlen : i ≤ 9223372036854775807)
    (hb : w.heap[g]? = some (.cells #[.slice A len cap, .int .i64 i, .int .i64 h] 114 (0, 0))) :
    Calls Tryz.prog 90 #[.pointer (some ⟨g, 0, none⟩)] w fun e w' => ∃ y : Int, e = .returned (.int .i64 y) ∧ 0 ≤ y ∧ y ≤ 255 ∧ w.grownBy w' (some g) ∧ ∃ h2 : Int, w'.heap[g]? = some (.cells #[.slice A len cap, .int .i64 i, .int .i64 h2] 114 (0, 0)) := by
  have c0 : w.cell? ⟨g, 0, none⟩ = some (.slice A len cap) := by rw [cell_of_row w g 0 _ _ _ hb]; rfl
  have c1 : w.cell? ⟨g, 1, none⟩ = some (.int .i64 i) := by rw [cell_of_row w g 1 _ _ _ hb]; rfl
  have c2 : w.cell? ⟨g, 2, none⟩ = some (.int .i64 h) := by rw [cell_of_row w g 2 _ _ _ hb]; rfl
  have f2 : w.frozen? ⟨g, 2, none⟩ = false := by simp [World.frozen?, hb]
  go_enter Tryz.func90, Tryz.ntmps90
  go_wp2_with fail
  generalize wrap64 (wrap64 (h * 6364136223846793005) + 1442695040888963407) = h2
  have hb2 := blk_set hb 2 (.int .i64 h2)
  have hg2 := grown_set (grown_refl w (some g)) 2 (.int .i64 h2)
  clear c0 c1 c2 f2 hb
  generalize w.setCell ⟨g, 2, none⟩ (.int .i64 h2) = W at *
  have c0 : W.cell? ⟨g, 0, none⟩ = some (.slice A len cap) := by rw [cell_of_row W g 0 _ _ _ hb2]; rfl
  have c1 : W.cell? ⟨g, 1, none⟩ = some (.int .i64 i) := by rw [cell_of_row W g 1 _ _ _ hb2]; rfl
  have c2 : W.cell? ⟨g, 2, none⟩ = some (.int .i64 h2) := by rw [cell_of_row W g 2 _ _ _ hb2]; rfl
  have HB2 := Lib.hid hb2
  clear hb2
  go_quiet (fail)
  have hx0 := and255 (bits BinOp.xor IntKind.i64 (h2 / 8589934592) (h2 / 35184372088832))
  generalize bits BinOp.and IntKind.i64 (bits BinOp.xor IntKind.i64 (h2 / 8589934592) (h2 / 35184372088832)) 255 = x0 at *
  go_wp2_with fail
  have hi2 : ¬ i < len := by omega
  go_quiet (fail)
  go_wp2_with fail
  go_ret
  exact ⟨x0, rfl, hx0.1, hx0.2, grown_drewN (grown_drewN hg2 _) _, h2, HB2.out⟩
theorem byte_any (g : Nat) (w : World) (hc : Cur g w) : Calls Tryz.prog 90 #[.pointer (some ⟨g, 0, none⟩)] w fun e w' => ∃ y : Int, e = .returned (.int .i64 y) ∧ 0 ≤ y ∧ y ≤ 255 ∧ Drew g w w' := by
  have hgs := hc.lt
  obtain ⟨A, len, cap, zs, i, h, hi, hb, hrow, hlow⟩ := hc
  by_cases hlt : i < len
  · obtain ⟨x, rfl, h1, h2, h3, h4, h5⟩ : ∃ x, A = some x ∧ len ≤ cap ∧ cap ≤ maxLen ∧ zs.length = cap ∧ (∀ i, i < zs.length → w.cell? (x.add i) = some (.int .u8 (zs.getD i 0))) ∧ ∀ n ∈ zs, (Lit.int .u8 n).wf = true := by
      rcases hrow with ⟨_, hl, _⟩ | ⟨x, hx, r⟩
      · omega
      · exact ⟨x, hx, r⟩
    have hz := h5 (zs.getD i 0) (by
      rw [List.getD_eq_getElem?_getD, List.getElem?_eq_getElem (show i < zs.length by omega)]
      exact List.getElem_mem _)
    simp [Lit.wf, IntKind.min, IntKind.max, IntKind.signed, IntKind.bits] at hz
    have hz' : 0 ≤ zs.getD i 0 ∧ zs.getD i 0 ≤ 255 := by rw [List.getD_eq_getElem?_getD]; exact hz
    refine (byte_more g x len cap i h _ w hlt (by unfold maxLen at h2; omega) hb (h4 i (by omega)) hz'.1 hz'.2 (hlow x rfl (by omega))).mono ?_
    rintro e w' ⟨y, he, hy0, hy1, hg, hh, hb'⟩
    exact ⟨y, he, hy0, hy1, hg, some x, len, cap, zs, i + 1, hh, by omega, hb', hrow.grown hg hlow hgs, hlow⟩
  · have hl : len ≤ 9223372036854775807 := by
      rcases hrow with ⟨_, hl, _⟩ | ⟨x, hx, h1, h2, _⟩
      · omega
      · unfold maxLen at h2; omega
    refine (byte_end g A len cap i h w (by omega) (by omega) hb).mono ?_
    rintro e w' ⟨y, he, hy0, hy1, hg, hh, hb'⟩
    exact ⟨y, he, hy0, hy1, hg, A, len, cap, zs, i, hh, hi, hb', hrow.grown hg hlow hgs, hlow⟩
theorem Drew.trans {g : Nat} {a b c : World} (h : Drew g a b) (k : Drew g b c) : Drew g a c := ⟨grown_tr h.1 k.1, k.2⟩
theorem below_none (g : Nat) (n : Int) (w : World) (hn : n ≤ 0) (hc : Cur g w) : Calls Tryz.prog 64 #[.pointer (some ⟨g, 0, none⟩), .int .i64 n] w fun e w' => e = .returned (.int .i64 0) ∧ w = w' := by
  go_enter Tryz.func64, Tryz.ntmps64
  go_wp2_with fail
  go_ret
  exact ⟨rfl, rfl⟩
theorem below_small (g : Nat) (n : Int) (w : World) (hn : 1 ≤ n) (hn2 : n ≤ 256) (hc : Cur g w) : Calls Tryz.prog 64 #[.pointer (some ⟨g, 0, none⟩), .int .i64 n] w fun e w' => ∃ y : Int, e = .returned (.int .i64 y) ∧ 0 ≤ y ∧ y < n ∧ Drew g w w' := by
  have C1 := Lib.hid (byte_any g w hc)
  have hn0 : ¬ n = 0 := by omega
  go_enter Tryz.func64, Tryz.ntmps64
  go_wp2_with (go_at_call 90; refine (C1.out).mono ?_; rintro e w' ⟨y, rfl, hy0, hy1, hd⟩)
  go_ret
  refine ⟨_, rfl, ?_, ?_, hd⟩
  · exact Int.emod_nonneg _ (by omega)
  · exact Int.emod_lt_of_pos _ (by omega)
set_option maxHeartbeats 1000000 in
theorem below_large (g : Nat) (n : Int) (w : World) (hn : 256 < n) (hn2 : n ≤ 9223372036854775807) (hc : Cur g w) : Calls Tryz.prog 64 #[.pointer (some ⟨g, 0, none⟩), .int .i64 n] w fun e w' => ∃ y : Int, e = .returned (.int .i64 y) ∧ 0 ≤ y ∧ y < n ∧ Drew g w w' := by
  have C1 := fun W (h : Cur g W) => Lib.hid (byte_any g W h)
  have hn0 : ¬ n = 0 := by omega
  go_enter Tryz.func64, Tryz.ntmps64
  go_wp2_with fail
  refine ((C1 _ hc).out).mono ?_
  rintro e w1 ⟨y1, rfl, hy10, hy11, hd1⟩
  go_wp2_with fail
  refine ((C1 _ hd1.2).out).mono ?_
  rintro e w2 ⟨y2, rfl, hy20, hy21, hd2⟩
  go_wp2_with fail
  refine ((C1 _ hd2.2).out).mono ?_
  rintro e w3 ⟨y3, rfl, hy30, hy31, hd3⟩
  go_wp2_with fail
  refine ((C1 _ hd3.2).out).mono ?_
  rintro e w4 ⟨y4, rfl, hy40, hy41, hd4⟩
  go_wp2_with fail
  go_ret
  refine ⟨_, rfl, ?_, ?_, ((hd1.trans hd2).trans hd3).trans hd4⟩
  · exact Int.emod_nonneg _ (by omega)
  · exact Int.emod_lt_of_pos _ (by omega)
theorem below_pos (g : Nat) (n : Int) (w : World) (hn : 1 ≤ n) (hn2 : n ≤ 9223372036854775807) (hc : Cur g w) : Calls Tryz.prog 64 #[.pointer (some ⟨g, 0, none⟩), .int .i64 n] w fun e w' => ∃ y : Int, e = .returned (.int .i64 y) ∧ 0 ≤ y ∧ y < n ∧ Drew g w w' := by
  by_cases h : n ≤ 256
  · exact below_small g n w hn h hc
  · exact below_large g n w (by omega) hn2 hc
end Go.Proofs.YtgjebjoaemeeoaaGreatDoor.kit
namespace Go.Proofs.YtgjebjoaemeeoaaGreatDoor.kit
open Go.ChangeShapes Go.WideShapes Go.ChangeAt Go.RowKit
set_option linter.unusedVariables false

theorem IsRow.below {k : IntKind} {w w' : World} {B : Nat} {a : Option Addr} {len cap : Nat} {zs : List Int} (h : IsRow k w a len cap zs) (hb : Below B w w') (hlow : ∀ x, a = some x → 0 < zs.length → x.block < B) : IsRow k w' a len cap zs := by
  rcases h with h | ⟨x, hx, h1, h2, h3, h4, h5⟩
  · exact .inl h
  · exact .inr ⟨x, hx, h1, h2, h3, fun i hi => by rw [hb.cell (by rw [block_add]; exact hlow x hx (by omega))]; exact h4 i hi, h5⟩
theorem cur_new {A : Option Addr} {len cap : Nat} {zs : List Int} {w : World} {hh : Int} (hrow : IsRow .u8 w A len cap zs) (hlow : ∀ x, A = some x → 0 < zs.length → x.block < w.heap.size) :
    Cur w.heap.size (w.alloc (.cells #[.slice A len cap, .int .i64 0, .int .i64 hh] 114)) ∧ Below w.heap.size w (w.alloc (.cells #[.slice A len cap, .int .i64 0, .int .i64 hh] 114)) := by
  have hb := (Below.refl w.heap.size w).alloc (Nat.le_refl _) (.cells #[.slice A len cap, .int .i64 0, .int .i64 hh] 114)
  exact ⟨⟨A, len, cap, zs, 0, hh, Nat.zero_le _, heap_alloc_new w _, hrow.below hb hlow, hlow⟩, hb⟩
set_option maxHeartbeats 1000000 in
set_option maxRecDepth 100000 in
theorem new_any (A : Option Addr) (len cap : Nat) (zs : List Int) (w : World) (hrow : IsRow .u8 w A len cap zs) (hlow : ∀ x, A = some x → 0 < zs.length → x.block < w.heap.size) :
    Calls Tryz.prog 29 #[.slice A len cap] w fun e w' => e = .returned (.pointer (some ⟨w.heap.size, 0, none⟩)) ∧ Cur w.heap.size w' ∧ Below w.heap.size w w' := by
  have hl : len ≤ 9223372036854775807 := by
    rcases hrow with ⟨_, h, _⟩ | ⟨_, _, h1, h2, _⟩
    · omega
    · unfold maxLen at h2; omega
  have HR := Lib.hid hrow
  go_enter Tryz.func29, Tryz.ntmps29
  go_wp2_with fail
  go_loop [3, 4] (fun h i => ∃ (k : Nat) (hh : Int), k ≤ len ∧ i = .int .i64 k ∧ h = .int .i64 hh) (fun _ i => len - (intOf i).toNat)
  case atStart => exact ⟨0, _, Nat.zero_le _, rfl, rfl⟩
  case round =>
    obtain ⟨k, hh, hk, rfl, rfl⟩ := hrel
    by_cases hlt : k < len
    · by_cases h4 : k < 4000
      · obtain ⟨x, rfl, h1, h2, h3, h4', h5⟩ : ∃ x, A = some x ∧ len ≤ cap ∧ cap ≤ maxLen ∧ zs.length = cap ∧ (∀ i, i < zs.length → w.cell? (x.add i) = some (.int .u8 (zs.getD i 0))) ∧ ∀ n ∈ zs, (Lit.int .u8 n).wf = true := by
          rcases HR.out with ⟨_, hl, _⟩ | ⟨x, hx, r⟩
          · omega
          · exact ⟨x, hx, r⟩
        obtain ⟨z, hz⟩ : ∃ z, w.cell? (x.add k) = some (.int .u8 z) := ⟨_, h4' k (by omega)⟩
        clear h4' h5 h3
        go_wp2_with fail
        go_round
        case rel => exact ⟨k + 1, _, by omega, by go_num, rfl⟩
        case measure => simp [intOf]; omega
      · go_wp2_with fail
        go_ret
        exact ⟨rfl, cur_new HR.out hlow⟩
    · go_wp2_with fail
      go_ret
      exact ⟨rfl, cur_new HR.out hlow⟩
def fits (y : Int) : Prop := -9223372036854775808 ≤ y ∧ y ≤ 9223372036854775807
set_option maxRecDepth 100000 in
theorem pickInt_any (g b n : Nat) (cs : Array Value) (w : World) (hn : 0 < n) (hn2 : n ≤ 1000) (hc : Cur g w) (hb : w.heap[b]? = some (.cells cs 3 (0, 0))) (hbg : b ≠ g) (hcs : ∀ j, j < n → ∃ y : Int, cs[j]? = some (.int .i64 y) ∧ fits y) :
    Calls Tryz.prog 65 #[.pointer (some ⟨g, 0, none⟩), .slice (some ⟨b, 0, none⟩) n n] w fun e w' => ∃ y : Int, e = .returned (.int .i64 y) ∧ fits y ∧ Drew g w w' := by
  have C1 := Lib.hid (below_pos g n w (by omega) (by omega) hc)
  have HB := Lib.hid hb
  have HCS := Lib.hid hcs
  clear hb hcs
  have hlt := (Array.getElem?_eq_some_iff.1 HB.out).1
  go_enter Tryz.func65, Tryz.ntmps65
  go_wp2_with fail
  refine (C1.out).mono ?_
  rintro e w1 ⟨y, rfl, hy0, hy1, hd⟩
  obtain ⟨j, rfl⟩ := Int.eq_ofNat_of_zero_le hy0
  obtain ⟨v, hv, hfit⟩ := HCS.out j (by omega)
  have hcell : w1.cell? ⟨b, j, none⟩ = some (.int .i64 v) := by
    rw [World.cell?_of_block (a := ⟨b, j, none⟩) (hd.1.block b hlt (fun e => hbg (Option.some.inj e))), cell_of_row w b j _ _ _ HB.out, hv]
  have HF := Lib.hid hfit
  clear hv hfit
  go_wp2_with fail
  go_ret
  exact ⟨v, rfl, HF.out, hd⟩
theorem grown_alloc {a w : World} {row : Option Nat} (h : a.grownBy w row) (o : Obj) : a.grownBy (w.alloc o) row :=
  ⟨h.os, h.tape, h.output, Nat.le_trans h.size (by simp), fun i hi hne => (Below.heap_alloc w o i (Nat.lt_of_lt_of_le hi h.size)).trans (h.block i hi hne)⟩
theorem Cur.grown {g : Nat} {w w' : World} (h : Cur g w) (hg : w.grownBy w' none) : Cur g w' := by
  have hgs := h.lt
  obtain ⟨A, len, cap, zs, i, hh, hi, hb, hrow, hlow⟩ := h
  have hg' : w.grownBy w' (some g) := ⟨hg.os, hg.tape, hg.output, hg.size, fun k hk hne => hg.block k hk (by simp)⟩
  exact ⟨A, len, cap, zs, i, hh, hi, (hg.block g hgs (by simp)).trans hb, hrow.grown hg' hlow hgs, hlow⟩
theorem Drew.alloc {g : Nat} {a w : World} (h : Drew g a w) (o : Obj) : Drew g a (w.alloc o) := ⟨grown_alloc h.1 o, h.2.grown (World.grownBy_alloc w o none)⟩
theorem Drew.refl {g : Nat} {w : World} (h : Cur g w) : Drew g w w := ⟨grown_refl w _, h⟩
theorem OwnB.snoc_int {e : TypeId} {base : Nat} {w : World} {v : Value} {l : List UInt8} {z : Int} (h : w.ownsRow base e 1 v (l.length + 1) ((l.map fun x => Value.int .u8 x.toNat) ++ [Value.int .u8 z])) (h0 : 0 ≤ z) (h1 : z ≤ 255) : OwnB e base w v (l ++ [UInt8.ofNat z.toNat]) :=
  OwnB.snoc h (by simp; omega)
theorem Cur.below {g B : Nat} {w w' : World} (h : Cur g w) (hb : Below B w w') (hg : g < B) : Cur g w' := by
  obtain ⟨A, len, cap, zs, i, hh, hi, hbl, hrow, hlow⟩ := h
  exact ⟨A, len, cap, zs, i, hh, hi, (hb.block g hg).trans hbl, hrow.below hb (fun x hx h0 => Nat.lt_trans (hlow x hx h0) hg), hlow⟩
theorem Drew.below {g : Nat} {a w w' : World} (h : Drew g a w) (hb : Below a.heap.size w w') (hg : g < a.heap.size) : Drew g a w' :=
  ⟨⟨hb.os.trans h.1.os, hb.tape.trans h.1.tape, hb.output.trans h.1.output, Nat.le_trans h.1.size hb.size, fun k hk hne => (hb.block k hk).trans (h.1.block k hk hne)⟩, h.2.below hb hg⟩
theorem own_drew {g : Nat} {w w' : World} {base : Nat} {e : TypeId} {size : Nat} {v : Value} {n : Nat} {xs : List Value} (h : w.ownsRow base e size v n xs) (hd : Drew g w w') (hg : g < base) : w'.ownsRow base e size v n xs :=
  h.kept hd.1 (by
    cases hv : v.ownBlock with
    | none => exact .inl rfl
    | some k => right; intro e; have := (h.lt k hv).1; have := Option.some.inj e; omega)
end Go.Proofs.YtgjebjoaemeeoaaGreatDoor.kit
namespace Go.Proofs.YtgjebjoaemeeoaaGreatDoor.kit
open Go.ChangeShapes Go.WideShapes Go.ChangeAt Go.RowKit
set_option linter.unusedVariables false

/-- code came in: a row of bytes below the heap's size -/
structure Code (w : World) (A : Option Addr) (len cap : Nat) (zs : List Int) : Prop where
  row : IsRow .u8 w A len cap zs
  low : ∀ x, A = some x → 0 < zs.length → x.block < w.heap.size
theorem code_of_row {w : World} {A : Option Addr} {len cap : Nat} {zs : List Int} (h : IsRow .u8 w A len cap zs) : Code w A len cap zs :=
  ⟨h, fun x hx h0 => by
    rcases h with ⟨h1, _⟩ | ⟨y, hy, _, _, _, h4, _⟩
    · rw [h1] at hx; cases hx
    · rw [hx] at hy
      obtain rfl := Option.some.inj hy
      have := World.block_lt_of_cell? w _ (h4 0 h0)
      rwa [block_add] at this⟩
theorem Code.below {w w' : World} {A : Option Addr} {len cap : Nat} {zs : List Int} (h : Code w A len cap zs) (hb : Below w.heap.size w w') : Code w' A len cap zs :=
  ⟨h.row.below hb h.low, fun x hx h0 => Nat.lt_of_lt_of_le (h.low x hx h0) hb.size⟩
theorem drew_below {g : Nat} {a w w' : World} (h : Below a.heap.size a w) (hg : a.heap.size ≤ g) (hd : Drew g w w') : Below a.heap.size a w' := grown_below h hd.1 h.size hg
end Go.Proofs.YtgjebjoaemeeoaaGreatDoor.kit
namespace Go.Proofs.YtgjebjoaemeeoaaGreatDoor.kit
open Go.ChangeShapes Go.WideShapes Go.ChangeAt Go.RowKit
set_option linter.unusedVariables false
set_option linter.unusedSimpArgs false

theorem OwnI.drew {g : Nat} {w w' : World} {base : Nat} {v : Value} {l : List Int} (h : OwnI base w v l) (hd : Drew g w w') (hg : g < base) : OwnI base w' v l := own_drew h.row hd hg
theorem OwnI.source {base : Nat} {w : World} {v : Value} {l : List Int} (h : OwnI base w v l) : SrcI w.heap.size w v l := by
  rcases h.2 with ⟨rfl, h0⟩ | ⟨g, c, cur, rfl, hg, hh, hn, hm, _⟩
  · exact .inl ⟨rfl, List.eq_nil_of_length_eq_zero h0⟩
  · refine SrcI.row (Array.getElem?_eq_some_iff.1 hh).1 rfl (fun j hj => ?_)
    rw [h.row.cellAt j (by omega), List.getElem?_map, List.getElem?_eq_getElem hj]
    simp [List.getD, hj]
theorem once_any (g : Nat) (n : Int) (w : World) (hn : 1 ≤ n) (hn2 : n ≤ 256) (hc : Cur g w) :
    Calls Tryz.prog 89 #[.pointer (some ⟨g, 0, none⟩), .int .i64 n] w fun e w' => ∃ b : Bool, e = .returned (.bool b) ∧ Drew g w w' := by
  have C1 := Lib.hid (below_small g n w hn hn2 hc)
  go_enter Tryz.func89, Tryz.ntmps89
  go_wp2_with fail
  refine (C1.out).mono ?_
  rintro e w1 ⟨y, rfl, _, _, hd⟩
  go_wp2_with fail
  go_ret
  exact ⟨_, rfl, hd⟩
theorem litsI (zs : List Int) (h : ∀ y ∈ zs, fits y) : ∀ j, j < zs.length → ∃ y : Int, ((zs.map (Value.int .i64)).toArray)[j]? = some (.int .i64 y) ∧ fits y := fun j hj => ⟨zs[j], by simp [hj], h _ (List.getElem_mem hj)⟩
theorem pick_lits {g : Nat} {w : World} (hc : Cur g w) (zs : List Int) (h0 : 0 < zs.length) (h1 : zs.length ≤ 1000) (h : ∀ y ∈ zs, fits y) :
    Calls Tryz.prog 65 #[.pointer (some ⟨g, 0, none⟩), .slice (some ⟨w.heap.size, 0, none⟩) zs.length zs.length] (w.alloc (.cells ((zs.map (Value.int .i64)).toArray) 3)) fun e w' => ∃ y : Int, e = .returned (.int .i64 y) ∧ fits y ∧ Drew g w w' := by
  have hD := (Drew.refl hc).alloc (.cells ((zs.map (Value.int .i64)).toArray) 3)
  exact (pickInt_any g w.heap.size zs.length _ _ h0 h1 hD.2 (heap_alloc_new w _) (by have := hc.lt; omega) (litsI zs h)).mono fun e w' ⟨y, he, hf, hd⟩ => ⟨y, he, hf, hD.trans hd⟩
set_option maxRecDepth 100000 in
theorem some_any (g : Nat) (w : World) (hc : Cur g w) :
    Calls Tryz.prog 98 #[.pointer (some ⟨g, 0, none⟩)] w fun e w' => ∃ (v : Value) (l : List Int), e = .returned v ∧ l.length ≤ 5 ∧ OwnI w.heap.size w' v l ∧ Drew g w w' := by
  have hgs := hc.lt
  have C2 := fun W (h : Cur g W) => Lib.hid (once_any g 2 W (by decide) (by decide) h)
  have hd0 := (Drew.refl hc).alloc (.cells #[] 3)
  go_enter Tryz.func98, Tryz.ntmps98
  go_wp2_with fail
  go_loopw [3, 4] (fun v n wr => ∃ (k : Nat) (l : List Int), n = .int .i64 k ∧ k ≤ 5 ∧ l.length ≤ k ∧ OwnI w.heap.size wr v l ∧ Drew g w wr) (fun _ n _ => 5 - (intOf n).toNat)
  case atStart => exact ⟨0, [], rfl, by omega, by simp, World.ownsRow_lit w #[] 0 (Nat.le_refl _) (Nat.zero_le _) rfl, hd0⟩
  case round =>
    obtain ⟨k, l, rfl, hk, hl, hown, hD⟩ := hrel
    by_cases hlt : k < 5
    · go_wp2_with fail
      refine ((C2 _ hD.2).out).mono ?_
      rintro e w3 ⟨b, rfl, hd3⟩
      have hown3 := hown.drew hd3 hgs
      have hrow3 := hown3.row
      have hD3 := hD.trans hd3
      cases b
      · go_wp2_with fail
        go_roundw
        case rel => exact ⟨k + 1, l, by go_num, by omega, by omega, hown3, hD3⟩
        case measure => simp [intOf]; omega
      · go_wp2_with (at_builtin; refine wpList_push1 rfl _ _ 35 rfl w.heap.size 3 (.int .i64 0) 8 Tryz.underlying35 infoI rfl _ _ _ rfl hrow3 _ 1 rfl (by rfl) (by omega) (by omega) hD3.1.size ?_; intro v' w4 hown4 hb4 hg4)
        go_roundw
        case rel => exact ⟨k + 1, l ++ [_], by go_num, by omega, by simp; omega, OwnI.snoc hown4, hD3.below hb4 hgs⟩
        case measure => simp [intOf]; omega
    · go_wp2_with fail
      go_ret
      exact ⟨_, l, rfl, by omega, hown, hD⟩
set_option maxRecDepth 100000 in
theorem any_any (g : Nat) (w : World) (hc : Cur g w) :
    Calls Tryz.prog 76 #[.pointer (some ⟨g, 0, none⟩)] w fun e w' => ∃ (v : Value) (l : List Int), e = .returned v ∧ l.length ≤ 6 ∧ OwnI w.heap.size w' v l ∧ Drew g w w' := by
  have hgs := hc.lt
  have C1 := Lib.hid (some_any g w hc)
  go_enter Tryz.func76, Tryz.ntmps76
  go_wp2_with fail
  refine (C1.out).mono ?_
  rintro e w1 ⟨v1, l, rfl, hl, ho1, hd1⟩
  have C2 := Lib.hid (once_any g 8 w1 (by decide) (by decide) hd1.2)
  go_wp2_with fail
  refine (C2.out).mono ?_
  rintro e w2 ⟨b, rfl, hd2⟩
  have hD2 := hd1.trans hd2
  have ho2 := ho1.drew hd2 hgs
  clear C1 C2
  cases b
  · go_wp2_with fail
    go_ret
    exact ⟨_, l, rfl, by omega, ho2, hD2⟩
  · have hz := hD2.1.size
    have hDa := Drew.alloc (Drew.refl hD2.2) (.cells #[.int .i64 (-1), .int .i64 0, .int .i64 4, .int .i64 5] 3)
    have C3 := Lib.hid (pickInt_any g w2.heap.size 4 #[.int .i64 (-1), .int .i64 0, .int .i64 4, .int .i64 5] (w2.alloc (.cells #[.int .i64 (-1), .int .i64 0, .int .i64 4, .int .i64 5] 3)) (by decide) (by decide)
      hDa.2 (heap_alloc_new w2 _) (by omega) (fun j hj => by
        rcases (by omega : j = 0 ∨ j = 1 ∨ j = 2 ∨ j = 3) with rfl | rfl | rfl | rfl
        · exact ⟨-1, rfl, by unfold fits; omega⟩
        · exact ⟨0, rfl, by unfold fits; omega⟩
        · exact ⟨4, rfl, by unfold fits; omega⟩
        · exact ⟨5, rfl, by unfold fits; omega⟩))
    go_wp2_with fail
    refine (C3.out).mono ?_
    rintro e w3 ⟨y, rfl, hf, hd3⟩
    have hDd := hDa.trans hd3
    have ho3 := ho2.drew hDd hgs
    have hrow3 := ho3.row
    have hD3 := hD2.trans hDd
    clear C3
    go_wp2_with (at_builtin; refine wpList_push1 rfl _ _ 35 rfl w.heap.size 3 (.int .i64 0) 8 Tryz.underlying35 infoI rfl _ _ _ rfl hrow3 _ 1 rfl (by rfl) (by omega) (by omega) hD3.1.size ?_; intro v' w4 hown4 hb4 hg4)
    go_ret
    exact ⟨_, l ++ [y], rfl, by simp; omega, OwnI.snoc hown4, hD3.below hb4 hgs⟩
end Go.Proofs.YtgjebjoaemeeoaaGreatDoor.kit
namespace Go.Proofs.YtgjebjoaemeeoaaGreatDoor.kit
open Go.ChangeShapes Go.WideShapes Go.ChangeAt Go.RowKit
set_option linter.unusedVariables false
set_option linter.unusedSimpArgs false

theorem OpAt.grown {w w' : World} {b g : Nat} {c s k o d v : Int} (h : OpAt w b c s k o d v) (hg : w.grownBy w' (some g)) (hne : b ≠ g) : OpAt w' b c s k o d v := by
  have hb : w'.heap[b]? = w.heap[b]? := hg.block b h.lt (fun e => hne (Option.some.inj e))
  have hc := fun q => World.cell?_of_block (a := ⟨b, q, none⟩) hb
  have hf := fun q => World.frozen?_of_block (a := ⟨b, q, none⟩) hb
  exact ⟨(hc 0).trans h.c0, (hc 1).trans h.c1, (hc 2).trans h.c2, (hc 3).trans h.c3, (hc 4).trans h.c4, (hc 5).trans h.c5, (hf 0).trans h.f0, (hf 1).trans h.f1, (hf 2).trans h.f2, (hf 3).trans h.f3, (hf 4).trans h.f4, (hf 5).trans h.f5⟩
theorem OpAt.set0 {w : World} {b : Nat} {c s k o d v : Int} (h : OpAt w b c s k o d v) (x : Int) : OpAt (w.setCell ⟨b, 0, none⟩ (.int .i64 x)) b x s k o d v := by
  obtain ⟨c0, c1, c2, c3, c4, c5, f0, f1, f2, f3, f4, f5⟩ := h
  constructor <;> go_simp
theorem OpAt.set1 {w : World} {b : Nat} {c s k o d v : Int} (h : OpAt w b c s k o d v) (x : Int) : OpAt (w.setCell ⟨b, 1, none⟩ (.int .i64 x)) b c x k o d v := by
  obtain ⟨c0, c1, c2, c3, c4, c5, f0, f1, f2, f3, f4, f5⟩ := h
  constructor <;> go_simp
theorem OpAt.set3 {w : World} {b : Nat} {c s k o d v : Int} (h : OpAt w b c s k o d v) (x : Int) : OpAt (w.setCell ⟨b, 3, none⟩ (.int .i64 x)) b c s k x d v := by
  obtain ⟨c0, c1, c2, c3, c4, c5, f0, f1, f2, f3, f4, f5⟩ := h
  constructor <;> go_simp
theorem OpAt.set5 {w : World} {b : Nat} {c s k o d v : Int} (h : OpAt w b c s k o d v) (x : Int) : OpAt (w.setCell ⟨b, 5, none⟩ (.int .i64 x)) b c s k o d x := by
  obtain ⟨c0, c1, c2, c3, c4, c5, f0, f1, f2, f3, f4, f5⟩ := h
  constructor <;> go_simp
theorem OpAt.other {w : World} {b b' q : Nat} {c s k o d v : Int} (h : OpAt w b c s k o d v) (hne : b ≠ b') (u : Value) : OpAt (w.setCell ⟨b', q, none⟩ u) b c s k o d v := by
  have hb : (w.setCell ⟨b', q, none⟩ u).heap[b]? = w.heap[b]? := Below.heap_setCell _ _ _ _ (by simpa using hne)
  have hc := fun q => World.cell?_of_block (a := ⟨b, q, none⟩) hb
  have hf := fun q => World.frozen?_of_block (a := ⟨b, q, none⟩) hb
  exact ⟨(hc 0).trans h.c0, (hc 1).trans h.c1, (hc 2).trans h.c2, (hc 3).trans h.c3, (hc 4).trans h.c4, (hc 5).trans h.c5, (hf 0).trans h.f0, (hf 1).trans h.f1, (hf 2).trans h.f2, (hf 3).trans h.f3, (hf 4).trans h.f4, (hf 5).trans h.f5⟩
/-- a store into a block of one's own -/
theorem Drew.set {g b q : Nat} {a w : World} (h : Drew g a w) (hb : a.heap.size ≤ b) (hg : g < a.heap.size) (u : Value) : Drew g a (w.setCell ⟨b, q, none⟩ u) :=
  h.below ((Below.refl _ _).setCell (p := ⟨b, q, none⟩) hb u) hg
theorem Drew.set6 {g b : Nat} {a w : World} (h : Drew g a w) (hb : a.heap.size ≤ b) (hg : g < a.heap.size) (x0 x1 x2 x3 x4 x5 : Value) :
    Drew g a ((((((w.setCell ⟨b, 0, none⟩ x0).setCell ⟨b, 1, none⟩ x1).setCell ⟨b, 2, none⟩ x2).setCell ⟨b, 3, none⟩ x3).setCell ⟨b, 4, none⟩ x4).setCell ⟨b, 5, none⟩ x5) :=
  (((((h.set hb hg x0).set hb hg x1).set hb hg x2).set hb hg x3).set hb hg x4).set hb hg x5
set_option maxRecDepth 100000 in
set_option maxHeartbeats 4000000 in
theorem op_any (g : Nat) (w : World) (hc : Cur g w) :
    Calls Tryz.prog 63 #[.pointer (some ⟨g, 0, none⟩)] w fun e w' => ∃ c s k o d v : Int, e = .returned (opV c s k o d v) ∧ Drew g w w' := by
  unfold opV
  have hgs := hc.lt
  have hD0 := (Drew.refl hc).alloc (.cells #[.int .i64 0, .int .i64 0, .int .i64 0, .int .i64 0, .int .i64 0, .int .i64 0] 25)
  have hO0 : OpAt (w.alloc (.cells #[.int .i64 0, .int .i64 0, .int .i64 0, .int .i64 0, .int .i64 0, .int .i64 0] 25)) w.heap.size 0 0 0 0 0 0 := OpAt.alloc w
  have hz0 : w.heap.size < (w.alloc (.cells #[.int .i64 0, .int .i64 0, .int .i64 0, .int .i64 0, .int .i64 0, .int .i64 0] 25)).heap.size := by simp
  have C3 := fun W (h : Cur g W) => Lib.hid (below_small g 3 W (by decide) (by decide) h)
  have C5 := fun W (h : Cur g W) => Lib.hid (below_small g 5 W (by decide) (by decide) h)
  have CT := fun W (h : Cur g W) => Lib.hid (below_small g 10 W (by decide) (by decide) h)
  have CO := fun W (h : Cur g W) => Lib.hid (once_any g 3 W (by decide) (by decide) h)
  go_enter Tryz.func63, Tryz.ntmps63
  go_wp2_with fail
  refine ((C3 _ hD0.2).out).mono ?_
  rintro e w1 ⟨y1, rfl, ha1, hb1, hd1⟩
  have hD1 := hD0.trans hd1
  have hO1 := hO0.grown hd1.1 (by omega)
  go_wp2_with fail
  refine ((C5 _ hD1.2).out).mono ?_
  rintro e w2 ⟨y2, rfl, ha2, hb2, hd2⟩
  have hD2 := hD1.trans hd2
  have hO2 := hO1.grown hd2.1 (by omega)
  have hw2 : IntKind.i64.wrap (1 + y2) = 1 + y2 := IntWalk.i64_in _ (by omega)
  go_wp2_with fail
  refine ((C3 _ hD2.2).out).mono ?_
  rintro e w3 ⟨y3, rfl, ha3, hb3, hd3⟩
  have hD3 := hD2.trans hd3
  have hO3 := hO2.grown hd3.1 (by omega)
  go_wp2_with fail
  refine ((CT _ hD3.2).out).mono ?_
  rintro e w4 ⟨y4, rfl, ha4, hb4, hd4⟩
  have hD4 := hD3.trans hd4
  have hO4 := hO3.grown hd4.1 (by omega)
  have hz4 : w.heap.size < w4.heap.size := hO4.lt
  have hD5 := hD4.alloc (.cells #[.int .i64 y1, .int .i64 (1 + y2), .int .i64 1, .int .i64 y3, .int .i64 0, .int .i64 y4] 25)
  have hP5 : OpAt (w4.alloc (.cells #[.int .i64 y1, .int .i64 (1 + y2), .int .i64 1, .int .i64 y3, .int .i64 0, .int .i64 y4] 25)) w4.heap.size y1 (1 + y2) 1 y3 0 y4 := OpAt.alloc w4
  have hO5 := hO4.later ((Below.refl w4.heap.size w4).alloc (Nat.le_refl _) (.cells #[.int .i64 y1, .int .i64 (1 + y2), .int .i64 1, .int .i64 y3, .int .i64 0, .int .i64 y4] 25))
  clear hD0 hD1 hD2 hD3 hO0 hO1 hO2 hO3 hO4 hd1 hd2 hd3 hd4 hz0 C3 C5 CT
  go_wp2_with fail
  refine ((CO _ hD5.2).out).mono ?_
  rintro e w6 ⟨b, rfl, hd6⟩
  have hD6 := hD5.trans hd6
  have hP := hP5.grown hd6.1 (by omega)
  have hO := hO5.grown hd6.1 (by omega)
  clear hD5 hP5 hO5 hd6 hw2 CO
  have hne : w4.heap.size ≠ w.heap.size := by omega
  have hne' : w.heap.size ≠ w4.heap.size := by omega
  obtain ⟨p, hp⟩ : ∃ p, p = w4.heap.size := ⟨_, rfl⟩
  rw [← hp] at hP hne hne' ⊢
  have hpz : w.heap.size < p := by omega
  clear hp hz4 hD4
  cases b
  · skip
    have q0 := hP.c0
    have q1 := hP.c1
    have q2 := hP.c2
    have q3 := hP.c3
    have q4 := hP.c4
    have q5 := hP.c5
    obtain ⟨r0, r1, r2, r3, r4, r5, z0, z1, z2, z3, z4, z5⟩ := hO
    go_wp2_with fail
    refine bodyPost_ret (v := .agg #[.int .i64 y1, .int .i64 (1 + y2), .int .i64 1, .int .i64 y3, .int .i64 0, .int .i64 y4]) (by simp [results, Tryz.results63, go_sem, r0, r1, r2, r3, r4, r5]) rfl ?_
    exact ⟨_, _, _, _, _, _, rfl, hD6.set6 (Nat.le_refl _) hgs _ _ _ _ _ _⟩
  · have hpq := hP.c2
    have hpf := hP.f2
    go_wp2_with fail
    obtain ⟨w7, hw7⟩ : ∃ W, W = w6.setCell ⟨p, 2, none⟩ (.int .i64 2) := ⟨_, rfl⟩
    rw [← hw7]
    have hP7 : OpAt w7 p y1 (1 + y2) 2 y3 0 y4 := by rw [hw7]; exact hP.setKind 2
    have hO7 : OpAt w7 w.heap.size 0 0 0 0 0 0 := by rw [hw7]; exact hO.other hne' _
    have hD7 : Drew g w w7 := by rw [hw7]; exact hD6.set (by omega) hgs _
    have hpz7 := hP7.lt
    have hs7 : w7.heap.size = w6.heap.size := by rw [hw7, World.size_setCell]
    clear hw7 hP hO hD6 hpq hpf
    have j0 := pick_lits hD7.2 [0, 0, 1, 5, 9] (by decide) (by decide) (by unfold fits; decide)
    simp only [List.map_cons, List.map_nil, List.length_cons, List.length_nil, Nat.reduceAdd, hs7] at j0
    have J := Lib.hid j0
    clear j0
    refine (J.out).mono ?_
    rintro e w8 ⟨y5, rfl, hf5, hd8⟩
    have hP8 := hP7.grown hd8.1 (by have := hD7.1.size; omega)
    have hO8 := hO7.grown hd8.1 (by omega)
    have hD8 := hD7.trans hd8
    have hpq := hP8.c4
    have hpf := hP8.f4
    clear hP7 hO7 hD7 hd8 J
    go_upto_region 5 with (fail)
    obtain ⟨w9, hw9⟩ : ∃ W, W = w8.setCell ⟨p, 4, none⟩ (.int .i64 y5) := ⟨_, rfl⟩
    have hP : OpAt w9 p y1 (1 + y2) 2 y3 y5 y4 := by rw [hw9]; exact hP8.setOld y5
    have hO : OpAt w9 w.heap.size 0 0 0 0 0 0 := by rw [hw9]; exact hO8.other hne' _
    have hD9 : Drew g w w9 := by rw [hw9]; exact hD8.set (by omega) hgs _
    rw [← hw9]
    clear hw9 hP8 hO8 hD8 hpq hpf
    have q0 := hP.c0
    have q1 := hP.c1
    have q2 := hP.c2
    have q3 := hP.c3
    have q4 := hP.c4
    have q5 := hP.c5
    obtain ⟨r0, r1, r2, r3, r4, r5, z0, z1, z2, z3, z4, z5⟩ := hO
    go_wp2_with fail
    refine bodyPost_ret (v := .agg #[.int .i64 y1, .int .i64 (1 + y2), .int .i64 2, .int .i64 y3, .int .i64 y5, .int .i64 y4]) (by simp [results, Tryz.results63, go_sem, r0, r1, r2, r3, r4, r5]) rfl ?_
    exact ⟨_, _, _, _, _, _, rfl, hD9.set6 (Nat.le_refl _) hgs _ _ _ _ _ _⟩
set_option maxRecDepth 100000 in
set_option maxHeartbeats 8000000 in
theorem anyOp_any (g : Nat) (w : World) (hc : Cur g w) :
    Calls Tryz.prog 28 #[.pointer (some ⟨g, 0, none⟩)] w fun e w' => ∃ c s k o d v : Int, e = .returned (opV c s k o d v) ∧ Drew g w w' := by
  unfold opV
  have hgs := hc.lt
  have hD0 := (Drew.refl hc).alloc (.cells #[.int .i64 0, .int .i64 0, .int .i64 0, .int .i64 0, .int .i64 0, .int .i64 0] 25)
  have hO0 : OpAt (w.alloc (.cells #[.int .i64 0, .int .i64 0, .int .i64 0, .int .i64 0, .int .i64 0, .int .i64 0] 25)) w.heap.size 0 0 0 0 0 0 := OpAt.alloc w
  have hz0 : w.heap.size < (w.alloc (.cells #[.int .i64 0, .int .i64 0, .int .i64 0, .int .i64 0, .int .i64 0, .int .i64 0] 25)).heap.size := by simp
  have C1 := Lib.hid (op_any g _ hD0.2)
  have CB := fun W (h : Cur g W) => Lib.hid (below_small g 14 W (by decide) (by decide) h)
  go_enter Tryz.func28, Tryz.ntmps28
  go_wp2_with fail
  refine (C1.out).mono ?_
  rintro e w1 ⟨c, s, k, o, d, v, rfl, hd1⟩
  unfold opV
  have hD1 := hD0.trans hd1
  have hO1 := hO0.grown hd1.1 (by omega)
  have hz1 : w.heap.size < w1.heap.size := hO1.lt
  have hD2 := hD1.alloc (.cells #[.int .i64 c, .int .i64 s, .int .i64 k, .int .i64 o, .int .i64 d, .int .i64 v] 25)
  have hP2 : OpAt (w1.alloc (.cells #[.int .i64 c, .int .i64 s, .int .i64 k, .int .i64 o, .int .i64 d, .int .i64 v] 25)) w1.heap.size c s k o d v := OpAt.alloc w1
  have hO2 := hO1.later ((Below.refl w1.heap.size w1).alloc (Nat.le_refl _) (.cells #[.int .i64 c, .int .i64 s, .int .i64 k, .int .i64 o, .int .i64 d, .int .i64 v] 25))
  clear hD0 hO0 hz0 hd1 hO1 C1
  go_wp2_with fail
  refine ((CB _ hD2.2).out).mono ?_
  rintro e w3 ⟨y, rfl, hy0, hy1, hd3⟩
  have hD3 := hD2.trans hd3
  have hP3 := hP2.grown hd3.1 (by omega)
  have hO3 := hO2.grown hd3.1 (by omega)
  have hne : w1.heap.size ≠ w.heap.size := by omega
  have hne' : w.heap.size ≠ w1.heap.size := by omega
  obtain ⟨p, hp⟩ : ∃ p, p = w1.heap.size := ⟨_, rfl⟩
  rw [← hp] at hP3 hne hne' ⊢
  have hpz : w.heap.size < p := by omega
  have hpl := hP3.lt
  clear hp hz1 hD1 hD2 hP2 hO2 hd3 CB
  have hy : y = 0 ∨ y = 1 ∨ y = 2 ∨ y = 3 ∨ y = 4 ∨ y = 5 ∨ 6 ≤ y := by omega
  rcases hy with rfl | rfl | rfl | rfl | rfl | rfl | hy
  · clear hy0 hy1
    have j0 := pick_lits hD3.2 [-1, 2, 3] (by decide) (by decide) (by unfold fits; decide)
    simp only [List.map_cons, List.map_nil, List.length_cons, List.length_nil, Nat.reduceAdd] at j0
    have J := Lib.hid j0
    clear j0
    go_wp2_with fail
    refine (J.out).mono ?_
    rintro e w8 ⟨y5, rfl, hf5, hd8⟩
    have hP8 := hP3.grown hd8.1 (by have := hD3.1.size; omega)
    have hO8 := hO3.grown hd8.1 (by omega)
    have hD8 := hD3.trans hd8
    have hpq := hP8.c0
    have hpf := hP8.f0
    clear hP3 hO3 hD3 hd8 J
    go_upto_region 15 with (fail)
    obtain ⟨w9, hw9⟩ : ∃ W, W = w8.setCell ⟨p, 0, none⟩ (.int .i64 y5) := ⟨_, rfl⟩
    have hP := (hw9 ▸ hP8.set0 y5 : OpAt w9 p _ _ _ _ _ _)
    have hO := (hw9 ▸ hO8.other hne' _ : OpAt w9 w.heap.size _ _ _ _ _ _)
    have hD9 : Drew g w w9 := hw9 ▸ hD8.set (by omega) hgs _
    rw [← hw9]
    clear hw9 hP8 hO8 hD8 hpq hpf
    obtain ⟨x0, x1, x2, x3, x4, x5, hP⟩ : ∃ x0 x1 x2 x3 x4 x5, OpAt w9 p x0 x1 x2 x3 x4 x5 := ⟨_, _, _, _, _, _, hP⟩
    have q0 := hP.c0
    have q1 := hP.c1
    have q2 := hP.c2
    have q3 := hP.c3
    have q4 := hP.c4
    have q5 := hP.c5
    obtain ⟨r0, r1, r2, r3, r4, r5, z0, z1, z2, z3, z4, z5⟩ := hO
    go_wp2_with fail
    refine bodyPost_ret (v := .agg #[.int .i64 x0, .int .i64 x1, .int .i64 x2, .int .i64 x3, .int .i64 x4, .int .i64 x5]) (by simp [results, Tryz.results28, go_sem, r0, r1, r2, r3, r4, r5]) rfl ?_
    exact ⟨_, _, _, _, _, _, rfl, hD9.set6 (Nat.le_refl _) hgs _ _ _ _ _ _⟩
  · clear hy0 hy1
    have j0 := pick_lits hD3.2 [0, 99, 100] (by decide) (by decide) (by unfold fits; decide)
    simp only [List.map_cons, List.map_nil, List.length_cons, List.length_nil, Nat.reduceAdd] at j0
    have J := Lib.hid j0
    clear j0
    go_wp2_with fail
    refine (J.out).mono ?_
    rintro e w8 ⟨y5, rfl, hf5, hd8⟩
    have hP8 := hP3.grown hd8.1 (by have := hD3.1.size; omega)
    have hO8 := hO3.grown hd8.1 (by omega)
    have hD8 := hD3.trans hd8
    have hpq := hP8.c1
    have hpf := hP8.f1
    clear hP3 hO3 hD3 hd8 J
    go_upto_region 15 with (fail)
    obtain ⟨w9, hw9⟩ : ∃ W, W = w8.setCell ⟨p, 1, none⟩ (.int .i64 y5) := ⟨_, rfl⟩
    have hP := (hw9 ▸ hP8.set1 y5 : OpAt w9 p _ _ _ _ _ _)
    have hO := (hw9 ▸ hO8.other hne' _ : OpAt w9 w.heap.size _ _ _ _ _ _)
    have hD9 : Drew g w w9 := hw9 ▸ hD8.set (by omega) hgs _
    rw [← hw9]
    clear hw9 hP8 hO8 hD8 hpq hpf
    obtain ⟨x0, x1, x2, x3, x4, x5, hP⟩ : ∃ x0 x1 x2 x3 x4 x5, OpAt w9 p x0 x1 x2 x3 x4 x5 := ⟨_, _, _, _, _, _, hP⟩
    have q0 := hP.c0
    have q1 := hP.c1
    have q2 := hP.c2
    have q3 := hP.c3
    have q4 := hP.c4
    have q5 := hP.c5
    obtain ⟨r0, r1, r2, r3, r4, r5, z0, z1, z2, z3, z4, z5⟩ := hO
    go_wp2_with fail
    refine bodyPost_ret (v := .agg #[.int .i64 x0, .int .i64 x1, .int .i64 x2, .int .i64 x3, .int .i64 x4, .int .i64 x5]) (by simp [results, Tryz.results28, go_sem, r0, r1, r2, r3, r4, r5]) rfl ?_
    exact ⟨_, _, _, _, _, _, rfl, hD9.set6 (Nat.le_refl _) hgs _ _ _ _ _ _⟩
  · clear hy0 hy1
    have J := Lib.hid (below_small g 4 w3 (by decide) (by decide) hD3.2)
    go_wp2_with fail
    refine (J.out).mono ?_
    rintro e w8 ⟨y5, rfl, hf5, hf6, hd8⟩
    have hP8 := hP3.grown hd8.1 (by have := hD3.1.size; omega)
    have hO8 := hO3.grown hd8.1 (by omega)
    have hD8 := hD3.trans hd8
    have hpq := hP8.c2
    have hpf := hP8.f2
    clear hP3 hO3 hD3 hd8 J
    go_upto_region 15 with (fail)
    obtain ⟨w9, hw9⟩ : ∃ W, W = w8.setCell ⟨p, 2, none⟩ (.int .i64 y5) := ⟨_, rfl⟩
    have hP := (hw9 ▸ hP8.setKind y5 : OpAt w9 p _ _ _ _ _ _)
    have hO := (hw9 ▸ hO8.other hne' _ : OpAt w9 w.heap.size _ _ _ _ _ _)
    have hD9 : Drew g w w9 := hw9 ▸ hD8.set (by omega) hgs _
    rw [← hw9]
    clear hw9 hP8 hO8 hD8 hpq hpf
    obtain ⟨x0, x1, x2, x3, x4, x5, hP⟩ : ∃ x0 x1 x2 x3 x4 x5, OpAt w9 p x0 x1 x2 x3 x4 x5 := ⟨_, _, _, _, _, _, hP⟩
    have q0 := hP.c0
    have q1 := hP.c1
    have q2 := hP.c2
    have q3 := hP.c3
    have q4 := hP.c4
    have q5 := hP.c5
    obtain ⟨r0, r1, r2, r3, r4, r5, z0, z1, z2, z3, z4, z5⟩ := hO
    go_wp2_with fail
    refine bodyPost_ret (v := .agg #[.int .i64 x0, .int .i64 x1, .int .i64 x2, .int .i64 x3, .int .i64 x4, .int .i64 x5]) (by simp [results, Tryz.results28, go_sem, r0, r1, r2, r3, r4, r5]) rfl ?_
    exact ⟨_, _, _, _, _, _, rfl, hD9.set6 (Nat.le_refl _) hgs _ _ _ _ _ _⟩
  · clear hy0 hy1
    have j0 := pick_lits hD3.2 [-1, 3] (by decide) (by decide) (by unfold fits; decide)
    simp only [List.map_cons, List.map_nil, List.length_cons, List.length_nil, Nat.reduceAdd] at j0
    have J := Lib.hid j0
    clear j0
    go_wp2_with fail
    refine (J.out).mono ?_
    rintro e w8 ⟨y5, rfl, hf5, hd8⟩
    have hP8 := hP3.grown hd8.1 (by have := hD3.1.size; omega)
    have hO8 := hO3.grown hd8.1 (by omega)
    have hD8 := hD3.trans hd8
    have hpq := hP8.c3
    have hpf := hP8.f3
    clear hP3 hO3 hD3 hd8 J
    go_upto_region 15 with (fail)
    obtain ⟨w9, hw9⟩ : ∃ W, W = w8.setCell ⟨p, 3, none⟩ (.int .i64 y5) := ⟨_, rfl⟩
    have hP := (hw9 ▸ hP8.set3 y5 : OpAt w9 p _ _ _ _ _ _)
    have hO := (hw9 ▸ hO8.other hne' _ : OpAt w9 w.heap.size _ _ _ _ _ _)
    have hD9 : Drew g w w9 := hw9 ▸ hD8.set (by omega) hgs _
    rw [← hw9]
    clear hw9 hP8 hO8 hD8 hpq hpf
    obtain ⟨x0, x1, x2, x3, x4, x5, hP⟩ : ∃ x0 x1 x2 x3 x4 x5, OpAt w9 p x0 x1 x2 x3 x4 x5 := ⟨_, _, _, _, _, _, hP⟩
    have q0 := hP.c0
    have q1 := hP.c1
    have q2 := hP.c2
    have q3 := hP.c3
    have q4 := hP.c4
    have q5 := hP.c5
    obtain ⟨r0, r1, r2, r3, r4, r5, z0, z1, z2, z3, z4, z5⟩ := hO
    go_wp2_with fail
    refine bodyPost_ret (v := .agg #[.int .i64 x0, .int .i64 x1, .int .i64 x2, .int .i64 x3, .int .i64 x4, .int .i64 x5]) (by simp [results, Tryz.results28, go_sem, r0, r1, r2, r3, r4, r5]) rfl ?_
    exact ⟨_, _, _, _, _, _, rfl, hD9.set6 (Nat.le_refl _) hgs _ _ _ _ _ _⟩
  · clear hy0 hy1
    have j0 := pick_lits hD3.2 [-1, 9, 10] (by decide) (by decide) (by unfold fits; decide)
    simp only [List.map_cons, List.map_nil, List.length_cons, List.length_nil, Nat.reduceAdd] at j0
    have J := Lib.hid j0
    clear j0
    go_wp2_with fail
    refine (J.out).mono ?_
    rintro e w8 ⟨y5, rfl, hf5, hd8⟩
    have hP8 := hP3.grown hd8.1 (by have := hD3.1.size; omega)
    have hO8 := hO3.grown hd8.1 (by omega)
    have hD8 := hD3.trans hd8
    have hpq := hP8.c5
    have hpf := hP8.f5
    clear hP3 hO3 hD3 hd8 J
    go_upto_region 15 with (fail)
    obtain ⟨w9, hw9⟩ : ∃ W, W = w8.setCell ⟨p, 5, none⟩ (.int .i64 y5) := ⟨_, rfl⟩
    have hP := (hw9 ▸ hP8.set5 y5 : OpAt w9 p _ _ _ _ _ _)
    have hO := (hw9 ▸ hO8.other hne' _ : OpAt w9 w.heap.size _ _ _ _ _ _)
    have hD9 : Drew g w w9 := hw9 ▸ hD8.set (by omega) hgs _
    rw [← hw9]
    clear hw9 hP8 hO8 hD8 hpq hpf
    obtain ⟨x0, x1, x2, x3, x4, x5, hP⟩ : ∃ x0 x1 x2 x3 x4 x5, OpAt w9 p x0 x1 x2 x3 x4 x5 := ⟨_, _, _, _, _, _, hP⟩
    have q0 := hP.c0
    have q1 := hP.c1
    have q2 := hP.c2
    have q3 := hP.c3
    have q4 := hP.c4
    have q5 := hP.c5
    obtain ⟨r0, r1, r2, r3, r4, r5, z0, z1, z2, z3, z4, z5⟩ := hO
    go_wp2_with fail
    refine bodyPost_ret (v := .agg #[.int .i64 x0, .int .i64 x1, .int .i64 x2, .int .i64 x3, .int .i64 x4, .int .i64 x5]) (by simp [results, Tryz.results28, go_sem, r0, r1, r2, r3, r4, r5]) rfl ?_
    exact ⟨_, _, _, _, _, _, rfl, hD9.set6 (Nat.le_refl _) hgs _ _ _ _ _ _⟩
  · clear hy0 hy1
    have j0 := pick_lits hD3.2 [-1, 0, 9, 10] (by decide) (by decide) (by unfold fits; decide)
    simp only [List.map_cons, List.map_nil, List.length_cons, List.length_nil, Nat.reduceAdd] at j0
    have J := Lib.hid j0
    clear j0
    go_wp2_with fail
    refine (J.out).mono ?_
    rintro e w8 ⟨y5, rfl, hf5, hd8⟩
    have hP8 := hP3.grown hd8.1 (by have := hD3.1.size; omega)
    have hO8 := hO3.grown hd8.1 (by omega)
    have hD8 := hD3.trans hd8
    have hpq := hP8.c4
    have hpf := hP8.f4
    clear hP3 hO3 hD3 hd8 J
    go_upto_region 15 with (fail)
    obtain ⟨w9, hw9⟩ : ∃ W, W = w8.setCell ⟨p, 4, none⟩ (.int .i64 y5) := ⟨_, rfl⟩
    have hP := (hw9 ▸ hP8.setOld y5 : OpAt w9 p _ _ _ _ _ _)
    have hO := (hw9 ▸ hO8.other hne' _ : OpAt w9 w.heap.size _ _ _ _ _ _)
    have hD9 : Drew g w w9 := hw9 ▸ hD8.set (by omega) hgs _
    rw [← hw9]
    clear hw9 hP8 hO8 hD8 hpq hpf
    obtain ⟨x0, x1, x2, x3, x4, x5, hP⟩ : ∃ x0 x1 x2 x3 x4 x5, OpAt w9 p x0 x1 x2 x3 x4 x5 := ⟨_, _, _, _, _, _, hP⟩
    have q0 := hP.c0
    have q1 := hP.c1
    have q2 := hP.c2
    have q3 := hP.c3
    have q4 := hP.c4
    have q5 := hP.c5
    obtain ⟨r0, r1, r2, r3, r4, r5, z0, z1, z2, z3, z4, z5⟩ := hO
    go_wp2_with fail
    refine bodyPost_ret (v := .agg #[.int .i64 x0, .int .i64 x1, .int .i64 x2, .int .i64 x3, .int .i64 x4, .int .i64 x5]) (by simp [results, Tryz.results28, go_sem, r0, r1, r2, r3, r4, r5]) rfl ?_
    exact ⟨_, _, _, _, _, _, rfl, hD9.set6 (Nat.le_refl _) hgs _ _ _ _ _ _⟩
  · have t0 : (y == 0) = false := by rw [beq_eq_false_iff_ne]; omega
    have t1 : (y == 1) = false := by rw [beq_eq_false_iff_ne]; omega
    have t2 : (y == 2) = false := by rw [beq_eq_false_iff_ne]; omega
    have t3 : (y == 3) = false := by rw [beq_eq_false_iff_ne]; omega
    have t4 : (y == 4) = false := by rw [beq_eq_false_iff_ne]; omega
    have t5 : (y == 5) = false := by rw [beq_eq_false_iff_ne]; omega
    have hP := hP3
    have hO := hO3
    have hD9 := hD3
    obtain ⟨w9, rfl⟩ : ∃ W, W = w3 := ⟨_, rfl⟩
    clear hP3 hO3 hD3
    go_upto_region 15 with (fail)
    obtain ⟨x0, x1, x2, x3, x4, x5, hP⟩ : ∃ x0 x1 x2 x3 x4 x5, OpAt w9 p x0 x1 x2 x3 x4 x5 := ⟨_, _, _, _, _, _, hP⟩
    have q0 := hP.c0
    have q1 := hP.c1
    have q2 := hP.c2
    have q3 := hP.c3
    have q4 := hP.c4
    have q5 := hP.c5
    obtain ⟨r0, r1, r2, r3, r4, r5, z0, z1, z2, z3, z4, z5⟩ := hO
    go_wp2_with fail
    refine bodyPost_ret (v := .agg #[.int .i64 x0, .int .i64 x1, .int .i64 x2, .int .i64 x3, .int .i64 x4, .int .i64 x5]) (by simp [results, Tryz.results28, go_sem, r0, r1, r2, r3, r4, r5]) rfl ?_
    exact ⟨_, _, _, _, _, _, rfl, hD9.set6 (Nat.le_refl _) hgs _ _ _ _ _ _⟩
end Go.Proofs.YtgjebjoaemeeoaaGreatDoor.kit
namespace Go.Proofs.YtgjebjoaemeeoaaGreatDoor.kit
open Go.ChangeShapes Go.WideShapes Go.ChangeAt Go.RowKit Go.Maps
set_option linter.unusedVariables false

theorem okOp_parts {c s k o d v : Int} (h : okOp c s k o d v = true) : (0 ≤ c ∧ c ≤ 2) ∧ (0 ≤ o ∧ o ≤ 2) ∧ (k = 1 ∨ k = 2) := by
  unfold okOp okC okS okV at h
  simp only [Bool.and_eq_true, Bool.or_eq_true, decide_eq_true_eq, beq_iff_eq] at h
  refine ⟨by omega, by omega, by omega⟩
theorem small_wf {c : Int} (h0 : 0 ≤ c) (h1 : c ≤ 2) : (Lit.int .i64 c).wf = true := by
  obtain ⟨n, rfl⟩ := Int.eq_ofNat_of_zero_le h0
  have : n = 0 ∨ n = 1 ∨ n = 2 := by omega
  rcases this with rfl | rfl | rfl <;> rfl
theorem sess_short {L2 : List Sess} (h : ∀ j, j < L2.length → sessAsc L2 j) : L2.length ≤ 3 ∧ wfC L2 := by
  have hr : ∀ j, j < L2.length → 0 ≤ (sg L2 j).1 ∧ (sg L2 j).1 ≤ 2 := fun j hj => by
    have h1 := (h j hj).1
    unfold sessOk okC at h1
    simp only [Bool.and_eq_true, decide_eq_true_eq] at h1
    exact h1.1
  have hs : ∀ j, j < L2.length → (j : Int) ≤ (sg L2 j).1 := by
    intro j
    induction j with
    | zero => intro hj; exact (hr 0 hj).1
    | succ j ih =>
      intro hj
      have h1 := (h (j + 1) hj).2 (by omega)
      rw [Nat.add_sub_cancel] at h1
      have := ih (by omega)
      omega
  refine ⟨?_, fun j hj => ?_⟩
  · by_cases h0 : L2.length ≤ 3
    · exact h0
    · have a := hs 3 (by omega)
      have b := hr 3 (by omega)
      omega
  · have := hr j hj
    exact small_wf (by omega) (by omega)
end Go.Proofs.YtgjebjoaemeeoaaGreatDoor.kit
namespace Go.Proofs.YtgjebjoaemeeoaaGreatDoor.kit
open Go.ChangeShapes Go.WideShapes Go.ChangeAt Go.RowKit Go.Maps
set_option linter.unusedVariables false
theorem specApplyOp (b1 b2 : Nat) (v1 v2 : Value) (L1 : List Int) (L2 : List Sess) (c s k o d v : Int) (w : World) (h1 : L1.length ≤ 4194304) (h2 : L2.length ≤ 4194304) (o1 : OwnI b1 w v1 L1) (o2 : OwnS b2 w v2 L2) :
    Calls Tryz.prog 105 #[.agg #[v1, v2], opV c s k o d v] w fun e w' => ∃ u1 u2, e = .returned (.tuple #[.agg #[u1, u2], .agg #[.bool (appD L1 L2 c s k o d v), .int .i64 (appV L1 L2 c s k o d v)], .bool (appB L1 L2 c s k o d v)]) ∧
      OwnI w.heap.size w' u1 (appO L1 L2 c s k o d v) ∧ OwnS w.heap.size w' u2 (appS L1 L2 c s k o d v) ∧ Below w.heap.size w w' := by
  unfold appD appV appB appO appS
  cases hm : decide (MOk L1 L2) with
  | false =>
    have hn : appNew L1 L2 c s k o d v = false := by unfold appNew appOk; rw [hm]; simp
    have hsm : appSame L1 L2 c s k o d v = false := by unfold appSame appOk; rw [hm]; simp
    rw [hn, hsm]
    exact appL_noM b1 b2 v1 v2 L1 L2 c s k o d v w h1 h2 o1 o2 (Lib.hid hm)
  | true =>
    cases hv : okOp c s k o d v with
    | false =>
      have hn : appNew L1 L2 c s k o d v = false := by unfold appNew appOk; rw [hv]; simp
      have hsm : appSame L1 L2 c s k o d v = false := by unfold appSame appOk; rw [hv]; simp
      rw [hn, hsm]
      exact appL_noO b1 b2 v1 v2 L1 L2 c s k o d v w h1 h2 o1 o2 (Lib.hid hm) (Lib.hid hv)
    | true =>
      have hok : appOk L1 L2 c s k o d v = true := by unfold appOk; rw [hm, hv]; rfl
      have hM := of_decide_eq_true hm
      obtain ⟨hlen, hwf⟩ := sess_short hM.2.2
      have hpw := sessAsc_pair hM.2.2
      obtain ⟨hc, ho, hk⟩ := okOp_parts hv
      obtain ⟨n, rfl⟩ := Int.eq_ofNat_of_zero_le ho.1
      have hn3 : n < L1.length := by rw [hM.1]; omega
      cases hh : hasSess L2 c with
      | false =>
        have hn : appNew L1 L2 c s k n d v = true := by unfold appNew; rw [hok, hh]; rfl
        rw [hn]
        exact appL_first b1 b2 v1 v2 L1 L2 c s k d v n w h1 (by omega) o1 o2 (Lib.hid hm) (Lib.hid hv) (Lib.hid hpw) (Lib.hid hn3) (Lib.hid hk) (Lib.hid hh)
      | true =>
        obtain ⟨l1, l2, l3, l4, hs⟩ : ∃ l1 l2 l3 l4, sessOf L2 c = (l1, l2, l3, l4) := ⟨_, _, _, _, rfl⟩
        by_cases h3 : l2 > s
        · have hn : appNew L1 L2 c s k n d v = false := by
            unfold appNew; rw [hok, hh, hs]; simp; omega
          have hsm : appSame L1 L2 c s k n d v = false := by
            unfold appSame; rw [hok, hh, hs]; simp; omega
          rw [hn, hsm]
          exact appL_known b1 b2 v1 v2 L1 L2 c s k n d v w h1 h2 o1 o2 (Lib.hid hm) (Lib.hid hv) l1 l2 l3 l4 (Lib.hid hh) (Lib.hid hs) (by rw [beq_eq_false_iff_ne]; omega) (decide_eq_true h3)
        · by_cases h4 : l2 = s
          · have hn : appNew L1 L2 c s k n d v = false := by
              unfold appNew; rw [hok, hh, hs]; simp; omega
            have hsm : appSame L1 L2 c s k n d v = true := by
              unfold appSame; rw [hok, hh, hs]; simp [h4]
            rw [hn, hsm]
            have := appL_same b1 b2 v1 v2 L1 L2 c s k n d v w h1 h2 o1 o2 (Lib.hid hm) (Lib.hid hv) l1 l2 l3 l4 (Lib.hid hh) (Lib.hid hs) (by simpa using h4)
            rw [hs]
            exact this
          · have hn : appNew L1 L2 c s k n d v = true := by
              unfold appNew; rw [hok, hh, hs]; simp; omega
            rw [hn]
            exact appL_later b1 b2 v1 v2 L1 L2 c s k d v n w h1 (by omega) o1 o2 (Lib.hid hm) (Lib.hid hv) (Lib.hid hpw) (Lib.hid hn3) (Lib.hid hk) l1 l2 l3 l4 (Lib.hid hh) (Lib.hid hs) (by simpa using h4) (decide_eq_false h3)
end Go.Proofs.YtgjebjoaemeeoaaGreatDoor.kit
namespace Go.Proofs.YtgjebjoaemeeoaaGreatDoor.kit
open Go.ChangeShapes Go.WideShapes Go.ChangeAt Go.RowKit Go.Maps
set_option linter.unusedVariables false
theorem insR_len : ∀ (l : List Sess) (x : Sess), (insR l x).length ≤ l.length + 1
  | [], x => by simp [insR]
  | y :: l, x => by
    have := insR_len l x
    unfold insR
    split
    · rw [List.length_cons, List.length_cons]; omega
    · split <;> simp <;> omega
theorem appO_len (L1 : List Int) (L2 : List Sess) (c s k o d v : Int) (h : L1.length ≤ 4194304) : (appO L1 L2 c s k o d v).length ≤ 4194304 := by
  unfold appO
  cases appNew L1 L2 c s k o d v with
  | false => simpa using h
  | true =>
    rw [if_pos rfl]
    unfold setO
    split
    · rw [List.length_set]; exact h
    · exact h
theorem appS_len (L1 : List Int) (L2 : List Sess) (c s k o d v : Int) (h : L2.length ≤ 4194304) : (appS L1 L2 c s k o d v).length ≤ 4194304 := by
  unfold appS
  cases hn : appNew L1 L2 c s k o d v with
  | false => simpa using h
  | true =>
    have hok : appOk L1 L2 c s k o d v = true := by unfold appNew at hn; simp only [Bool.and_eq_true] at hn; exact hn.1
    have hM : MOk L1 L2 := by unfold appOk at hok; simp only [Bool.and_eq_true] at hok; exact of_decide_eq_true hok.1
    have hl := (sess_short hM.2.2).1
    rw [if_pos rfl]
    have := insR_len L2 (c, s, doneO k d (L1.getD o.toNat 0), L1.getD o.toNat 0)
    omega
end Go.Proofs.YtgjebjoaemeeoaaGreatDoor.kit
namespace Go.Proofs.YtgjebjoaemeeoaaGreatDoor.kit
open Go.ChangeShapes Go.WideShapes Go.ChangeAt Go.RowKit
set_option linter.unusedVariables false

def newO : List Int := [0, 0, 0]
def newS : List Sess := []
theorem newO_len : newO.length ≤ 4194304 := by simp [newO]
theorem newS_len : newS.length ≤ 4194304 := by simp [newS]
theorem own_newS (b : Nat) (w : World) : OwnS b w (.slice none 0 0) newS := World.ownsRow_nil w b _ 4
theorem own_three (b : Nat) (w : World) (hb : b ≤ w.heap.size) : OwnI b (w.alloc (.cells #[.int .i64 0, .int .i64 0, .int .i64 0] 3)) (.slice (some ⟨w.heap.size, 0, none⟩) 3 3) newO :=
  OwnI.of (World.ownsRow_lit w #[.int .i64 0, .int .i64 0, .int .i64 0] 3 hb (by unfold maxLen; omega) rfl) rfl
theorem made3 : madeCells #[.int .i64 0] 3 = #[.int .i64 0, .int .i64 0, .int .i64 0] := by
  apply Array.ext'
  rw [toList_madeCells_one]
  rfl
set_option maxRecDepth 100000 in
theorem specNewMachine (w : World) : Calls Tryz.prog 104 #[] w fun e w' => ∃ v1 v2, e = .returned (.agg #[v1, v2]) ∧ OwnI w.heap.size w' v1 newO ∧ OwnS w.heap.size w' v2 newS ∧ Below w.heap.size w w' := by
  go_enter Tryz.func104, Tryz.ntmps104
  go_wp2_with fail
  refine bodyPost_ret (v := .agg #[.slice (some ⟨w.heap.size + 1, 0, none⟩) 3 3, .slice none 0 0]) (by simp [results, Tryz.results104, go_sem]) rfl ⟨_, _, rfl, ?_, own_newS _ _, by go_grown⟩
  have h := own_three w.heap.size (w.alloc (.cells #[.slice (some ⟨w.heap.size + 1, 0, none⟩) 3 3, .slice none 0 0] 44)) (by simp)
  simpa using h
end Go.Proofs.YtgjebjoaemeeoaaGreatDoor.kit
namespace Go.Proofs.YtgjebjoaemeeoaaGreatDoor.kit
open Go.ChangeShapes Go.WideShapes Go.ChangeAt Go.RowKit
set_option linter.unusedVariables false
set_option linter.unusedSimpArgs false

theorem OwnS.drew {g : Nat} {w w' : World} {base : Nat} {v : Value} {l : List Sess} (h : OwnS base w v l) (hd : Drew g w w') (hg : g < base) : OwnS base w' v l := own_drew h.row hd hg
theorem Box2.drew {g : Nat} {w w' : World} {b : Nat} {t : TypeId} {x y : Value} (h : Box2 w b t x y) (hd : Drew g w w') (hg : b ≠ g) : Box2 w' b t x y := (hd.1.block b h.lt (fun e => hg (Option.some.inj e))).trans h
theorem appO_three (L1 : List Int) (L2 : List Sess) (c s k o d v : Int) : (appO L1 L2 c s k o d v).length = L1.length := by
  unfold appO
  split
  · rw [setO_len]
  · rfl
theorem appS_more (L1 : List Int) (L2 : List Sess) (c s k o d v : Int) : (appS L1 L2 c s k o d v).length ≤ L2.length + 1 := by
  unfold appS
  split
  · exact insR_len _ _
  · omega
/-- the machine in a box: its two rows -/
structure MBoxD (N : Nat) (w : World) (b : Nat) (L : List Int) (M : List Sess) where
  y1 : Option Addr
  q1 : Nat
  y2 : Option Addr
  q2 : Nat
  box : Box2 w b 44 (.slice y1 L.length q1) (.slice y2 M.length q2)
  o1 : OwnI N w (.slice y1 L.length q1) L
  o2 : OwnS N w (.slice y2 M.length q2) M
theorem Drew.set2 {g b : Nat} {a w : World} (h : Drew g a w) (hb : a.heap.size ≤ b) (hg : g < a.heap.size) (u v : Value) : Drew g a ((w.setCell ⟨b, 0, none⟩ u).setCell ⟨b, 1, none⟩ v) := (h.set hb hg u).set hb hg v
set_option maxRecDepth 100000 in
set_option maxHeartbeats 8000000 in
theorem machine_any (g : Nat) (w : World) (hc : Cur g w) :
    Calls Tryz.prog 83 #[.pointer (some ⟨g, 0, none⟩)] w fun e w' => ∃ (u1 u2 : Value) (L : List Int) (M : List Sess), e = .returned (.agg #[u1, u2]) ∧ L.length = 3 ∧ M.length ≤ 5 ∧ OwnI w.heap.size w' u1 L ∧ OwnS w.heap.size w' u2 M ∧ Drew g w w' := by
  have hgs := hc.lt
  have hD0 := (Drew.refl hc).alloc (.cells #[.slice none 0 0, .slice none 0 0] 44)
  have hR := Box2.new w 44 (.slice none 0 0) (.slice none 0 0)
  have J0 := Lib.hid (specNewMachine (w.alloc (.cells #[.slice none 0 0, .slice none 0 0] 44)))
  go_enter Tryz.func83, Tryz.ntmps83
  go_wp2_with fail
  refine J0.out.mono ?_
  rintro e w1 ⟨u1, u2, rfl, ho1, ho2, hb1⟩
  obtain ⟨z1, e1, rfl⟩ := ho1.shape
  obtain ⟨z2, e2, rfl⟩ := ho2.shape
  have hz1 : w.heap.size ≤ w1.heap.size := by have := hb1.size; simp at this; omega
  have hrx : w.heap.size < w1.heap.size := (hR.later hb1).lt
  have hbX := (Below.refl w1.heap.size w1).alloc (Nat.le_refl _) (.cells #[.slice z1 newO.length e1, .slice z2 newS.length e2] 44)
  have hD1 := hD0.below (hb1.mono (by simp)) hgs
  have HR1 := Lib.hid ((hR.later hb1).later hbX)
  have HX1 := Lib.hid (Box2.new w1 44 (.slice z1 newO.length e1) (.slice z2 newS.length e2))
  have HO1 := Lib.hid ((OwnI.mono ho1 (show w.heap.size ≤ _ by simp)).later hbX)
  have HO2 := Lib.hid ((OwnS.mono ho2 (show w.heap.size ≤ _ by simp)).later hbX)
  have hD2 := hD1.alloc (.cells #[.slice z1 newO.length e1, .slice z2 newS.length e2] 44)
  have C6 := Lib.hid (below_small g 6 _ (by decide) (by decide) hD2.2)
  clear hb1 ho1 ho2 hD0 hD1 hbX hR J0
  go_wp2_with fail
  refine (C6.out).mono ?_
  rintro e w3 ⟨n, rfl, hn0, hn1, hd3⟩
  obtain ⟨n0, rfl⟩ := Int.eq_ofNat_of_zero_le hn0
  have hD3 := hD2.trans hd3
  have HR3 := Lib.hid (HR1.out.drew hd3 (by omega))
  have HX3 := Lib.hid (HX1.out.drew hd3 (by omega))
  have HO13 := Lib.hid (HO1.out.drew hd3 hgs)
  have HO23 := Lib.hid (HO2.out.drew hd3 hgs)
  clear C6 hd3 hD2 HR1 HX1 HO1 HO2
  go_wp2_with fail
  go_loopw [4] (fun i wr => ∃ (k : Nat) (L : List Int) (M : List Sess), k ≤ 5 ∧ i = .int .i64 k ∧ L.length = 3 ∧ M.length + k ≤ 5 ∧ Hid (Box2 wr w.heap.size 44 (.slice none 0 0) (.slice none 0 0)) ∧ Hid (Nonempty (MBoxD w.heap.size wr w1.heap.size L M)) ∧ Hid (Drew g w wr)) (fun i _ => (intOf i).toNat)
  case atStart => exact ⟨n0, newO, newS, by omega, rfl, by simp [newO], by simp [newS]; omega, HR3, Lib.hid ⟨⟨z1, e1, z2, e2, HX3.out, HO13.out, HO23.out⟩⟩, Lib.hid hD3⟩
  case round =>
    obtain ⟨k, L, M, hk, rfl, hL, hM, HRr, HMB, HQ⟩ := hrel
    obtain ⟨⟨z1, e1, z2, e2, hX, hoI, hoS⟩⟩ := HMB.out
    have HXX := Lib.hid hX
    have HOI := Lib.hid hoI
    have HOS := Lib.hid hoS
    have hxl := hX.lt
    have HL := Lib.hid hL
    clear hoI hoS HMB HX3 HO13 HO23 HR3 hD3 hL
    by_cases hlt : 0 < k
    · have t1 : decide ((k : Int) > 0) = true := decide_eq_true (by omega)
      have hw1 : IntKind.i64.wrap ((k : Int) - 1) = (k : Int) - 1 := IntWalk.i64_in _ (by omega)
      have kx0 := hX.c0
      have kx1 := hX.c1
      clear hX
      have hbD : Below wr.heap.size wr wr.drew := (Below.refl _ _).drew
      have hcD : Cur g wr.drew := Cur.below HQ.out.2 hbD HQ.out.2.lt
      have HDD := Lib.hid (show Drew g wr wr.drew from ⟨grown_drewN (grown_refl wr (some g)) 1, hcD⟩)
      have JO := Lib.hid (op_any g wr.drew hcD)
      have HBD := Lib.hid hbD
      clear hbD hcD
      have hg1 : w1.heap.size ≠ g := by omega
      have hg2 : w.heap.size ≠ g := by omega
      go_wp2_with fail
      go_region_with (first | (go_at_call 63; (with_reducible refine JO.out.mono ?_); rintro e w2 ⟨c, s, k', o, d, v, rfl, hd2⟩; unfold opV; have hdd := HDD.out.trans hd2; have hX2 := HXX.out.drew hdd hg1; have kc0 := hX2.c0; have kc1 := hX2.c1; have HI2 := Lib.hid (HOI.out.drew hdd hgs); have HS2 := Lib.hid (HOS.out.drew hdd hgs)) | (go_at_call 105; (with_reducible refine (specApplyOp _ _ _ _ L M c s k' o d v _ (by have := HL.out; omega) (by omega) HI2.out HS2.out).mono ?_); rintro e w4 ⟨v1, v2, rfl, hv1, hv2, hb4⟩; obtain ⟨t1', s1, rfl⟩ := hv1.shape; obtain ⟨t2', s2, rfl⟩ := hv2.shape; have hX4 := hX2.later hb4; have kd0 := hX4.c0; have kd1 := hX4.c1; have kf0 := hX4.f 0; have kf1 := hX4.f 1))
      all_goals
        clear kx0 kx1
        go_wp2_with fail
        go_roundw
        case rel =>
          have hz2 := hdd.1.size
          have hz := HQ.out.1.size
          have hD4 := (HQ.out.trans hdd).below (hb4.mono (by omega)) hgs
          refine ⟨k - 1, appO L M c s k' o d v, appS L M c s k' o d v, by omega, by congr 1; omega, by rw [appO_three]; exact HL.out, by have := appS_more L M c s k' o d v; omega, Lib.hid (Box2.keep ((HRr.out.drew hdd hg2).later hb4) (by omega) _ _), Lib.hid ⟨?_⟩, Lib.hid (hD4.set2 (by omega) hgs _ _)⟩
          exact ⟨t1', s1, t2', s2, hX4.set _ _, row_set2 (OwnI.mono hv1 (by omega)) hX4 (by decide) _ _, row_set2 (OwnS.mono hv2 (by omega)) hX4 (by decide) _ _⟩
        case measure => simp [intOf]; omega
    · obtain rfl : k = 0 := by omega
      have kx0 := hX.c0
      have kx1 := hX.c1
      have kr0 := HRr.out.c0
      have kr1 := HRr.out.c1
      have krf0 := HRr.out.f 0
      have krf1 := HRr.out.f 1
      clear hX hlt
      go_wp2_with fail
      refine bodyPost_ret (v := .agg #[.slice z1 L.length e1, .slice z2 M.length e2]) (by simp [results, Tryz.results83, go_sem, kr0, kr1]) rfl ?_
      exact ⟨_, _, L, M, rfl, HL.out, by omega, row_set2 HOI.out HRr.out (by decide) _ _, row_set2 HOS.out HRr.out (by decide) _ _, HQ.out.set2 (Nat.le_refl _) hgs _ _⟩
end Go.Proofs.YtgjebjoaemeeoaaGreatDoor.kit
namespace Go.Proofs.YtgjebjoaemeeoaaGreatDoor.kit
open Go.ChangeShapes Go.WideShapes Go.ChangeAt Go.RowKit
set_option linter.unusedVariables false

/-- the slice value v reads as the ints l, in a row of ints at or above base -/
def PartI (base : Nat) (w : World) (v : Value) (l : List Int) : Prop :=
  ∃ g o c, v = .slice (some ⟨g, o, none⟩) l.length c ∧ base ≤ g ∧ (∃ cs r, w.heap[g]? = some (.cells cs 3 r)) ∧ ∀ j, j < l.length → w.cell? ⟨g, o + j, none⟩ = some (.int .i64 (l.getD j 0))
theorem PartI.shape {base : Nat} {w : World} {v : Value} {l : List Int} (h : PartI base w v l) : ∃ a c, v = .slice a l.length c := by
  obtain ⟨g, o, c, rfl, _⟩ := h
  exact ⟨_, _, rfl⟩
theorem PartI.mono {base base' : Nat} {w : World} {v : Value} {l : List Int} (h : PartI base w v l) (hb : base' ≤ base) : PartI base' w v l := by
  obtain ⟨g, o, c, hv, hg, h1, h2⟩ := h
  exact ⟨g, o, c, hv, Nat.le_trans hb hg, h1, h2⟩
theorem PartI.same {base : Nat} {w w' : World} {v : Value} {l : List Int} (h : PartI base w v l) (hs : ∀ g, base ≤ g → g < w.heap.size → (∃ cs r, w.heap[g]? = some (.cells cs 3 r)) → w'.heap[g]? = w.heap[g]?) : PartI base w' v l := by
  obtain ⟨g, o, c, hv, hg, ⟨cs, r, hc⟩, h2⟩ := h
  have e := hs g hg (Array.getElem?_eq_some_iff.1 hc).1 ⟨cs, r, hc⟩
  refine ⟨g, o, c, hv, hg, ⟨cs, r, e.trans hc⟩, fun j hj => ?_⟩
  rw [World.cell?_of_block (a := ⟨g, o + j, none⟩) e]
  exact h2 j hj
theorem PartI.later {base : Nat} {w w' : World} {v : Value} {l : List Int} (h : PartI base w v l) (hb : Below w.heap.size w w') : PartI base w' v l :=
  h.same fun g _ hl _ => hb.block g hl
theorem PartI.drew {g0 base : Nat} {w w' : World} {v : Value} {l : List Int} (h : PartI base w v l) (hd : Drew g0 w w') (hg : g0 < base) : PartI base w' v l :=
  h.same fun g hb hl _ => hd.1.block g hl (fun e => by have := Option.some.inj e; omega)
theorem PartI.put {base b : Nat} {w : World} {v : Value} {l : List Int} (h : PartI base w v l) {t : TypeId} {cs : Array Value} (hb : BoxC w b t cs) (hte : t ≠ 3) (j : Nat) (u : Value) : PartI base (w.setCell ⟨b, j, none⟩ u) v l :=
  h.same fun g _ _ ⟨cs', r, hc⟩ => Below.heap_setCell _ _ _ _ (by
    simp only [ne_eq]
    intro e
    subst e
    have := hc.symm.trans hb
    simp at this
    exact hte this.2.1.symm)
theorem PartI.src {base : Nat} {w : World} {v : Value} {l : List Int} (h : PartI base w v l) : SrcI w.heap.size w v l := by
  obtain ⟨g, o, c, rfl, _, ⟨cs, r, hc⟩, h2⟩ := h
  exact SrcI.part (Array.getElem?_eq_some_iff.1 hc).1 rfl h2
/-- the row without its first element -/
theorem OwnI.tail {base g c c' : Nat} {w : World} {x : Int} {l : List Int} {n : Nat} (h : OwnI base w (.slice (some ⟨g, 0, none⟩) n c) (x :: l)) : PartI base w (.slice (some ⟨g, 1, none⟩) l.length c') l := by
  have hr := h.row
  rcases h.2 with ⟨hv, _⟩ | ⟨q, c2, cur, hv, hg, hh, _⟩
  · cases hv
  · cases hv
    refine ⟨g, 1, c', rfl, hg, ⟨_, _, hh⟩, fun j hj => ?_⟩
    have := hr.cellAt (1 + j) (by simp; omega)
    rw [this]
    rw [Nat.add_comm 1 j]
    simp [List.getD, hj]
theorem row_otherI {W : World} {base b : Nat} {v : Value} {l : List Int} (hr : OwnI base W v l) {t : TypeId} {cs : Array Value} (hb : BoxC W b t cs) (hte : t ≠ 3) : v.ownBlock ≠ some b := by
  rcases hr.2 with ⟨rfl, _⟩ | ⟨q, cap, cur, rfl, _, hgb, _⟩
  · simp [Value.ownBlock]
  · intro e'
    obtain rfl : q = b := by simpa [Value.ownBlock] using e'
    have := (show W.heap[q]? = _ from hb).symm.trans hgb
    simp at this
    exact hte this.2
/-- the objects of a drawn machine: a row of the call's own, or a part of one, then not three -/
def ObjV (base : Nat) (w : World) (v : Value) (l : List Int) : Prop := OwnI base w v l ∨ (l.length ≠ 3 ∧ PartI base w v l)
theorem ObjV.shape {base : Nat} {w : World} {v : Value} {l : List Int} (h : ObjV base w v l) : ∃ a c, v = .slice a l.length c := Or.elim h OwnI.shape (fun h => h.2.shape)
theorem ObjV.mono {base base' : Nat} {w : World} {v : Value} {l : List Int} (h : ObjV base w v l) (hb : base' ≤ base) : ObjV base' w v l := Or.imp (fun h => OwnI.mono h hb) (fun h => ⟨h.1, h.2.mono hb⟩) h
theorem ObjV.later {base : Nat} {w w' : World} {v : Value} {l : List Int} (h : ObjV base w v l) (hb : Below w.heap.size w w') : ObjV base w' v l := Or.imp (fun h => h.later hb) (fun h => ⟨h.1, h.2.later hb⟩) h
theorem ObjV.drew {g0 base : Nat} {w w' : World} {v : Value} {l : List Int} (h : ObjV base w v l) (hd : Drew g0 w w') (hg : g0 < base) : ObjV base w' v l := Or.imp (fun h => h.drew hd hg) (fun h => ⟨h.1, h.2.drew hd hg⟩) h
theorem ObjV.put {base b : Nat} {w : World} {v : Value} {l : List Int} (h : ObjV base w v l) {t : TypeId} {cs : Array Value} (hb : BoxC w b t cs) (hte : t ≠ 3) (j : Nat) (u : Value) : ObjV base (w.setCell ⟨b, j, none⟩ u) v l :=
  Or.imp (fun h => ownsRow_setCell_other h (row_otherI h hb hte) _) (fun h => ⟨h.1, h.2.put hb hte j u⟩) h
theorem ObjV.src {base : Nat} {w : World} {v : Value} {l : List Int} (h : ObjV base w v l) : SrcI w.heap.size w v l := Or.elim h SrcI.own (fun h => h.2.src)
theorem ObjV.at {base : Nat} {w : World} {a : Option Addr} {n c : Nat} {l : List Int} (h : ObjV base w (.slice a n c) l) : At w a l := h.src.at (Nat.le_refl _)
end Go.Proofs.YtgjebjoaemeeoaaGreatDoor.kit
namespace Go.Proofs.YtgjebjoaemeeoaaGreatDoor.kit
open Go.ChangeShapes Go.WideShapes Go.ChangeAt Go.RowKit
set_option linter.unusedVariables false

theorem BoxC.drewn {g : Nat} {w w' : World} {b : Nat} {t : TypeId} {cs : Array Value} (h : BoxC w b t cs) (hd : Drew g w w') (hg : b ≠ g) : BoxC w' b t cs := (hd.1.block b h.lt (fun e => hg (Option.some.inj e))).trans h
theorem Drew.setC {g b : Nat} {a w : World} (h : Drew g a w) (hb : a.heap.size ≤ b) (hg : g < a.heap.size) (j : Nat) (u : Value) : Drew g a (w.setCell ⟨b, j, none⟩ u) :=
  h.below ((Below.refl _ _).setCell (p := ⟨b, j, none⟩) hb u |>.mono (by exact Nat.le_refl _)) hg
end Go.Proofs.YtgjebjoaemeeoaaGreatDoor.kit
namespace Go.Proofs.YtgjebjoaemeeoaaGreatDoor.kit
open Go.ChangeShapes Go.WideShapes Go.ChangeAt Go.RowKit
set_option linter.unusedVariables false
set_option linter.unusedSimpArgs false

/-- a row of another type is another block -/
theorem row_other {W : World} {g : Nat} {t e : TypeId} {cs : Array Value} {r : Nat × Nat} (h : W.heap[g]? = some (.cells cs t r)) (hte : t ≠ e) {base size k : Nat} {v : Value} {xs : List Value} (hr : W.ownsRow base e size v k xs) : v.ownBlock ≠ some g := by
  rcases hr.2 with ⟨rfl, _⟩ | ⟨q, cap, cur, rfl, _, hgb, _⟩
  · simp [Value.ownBlock]
  · intro e'
    obtain rfl : q = g := by simpa [Value.ownBlock] using e'
    have := h.symm.trans hgb
    simp at this
    exact hte this.2.1
/-- a box stays while a row grows -/
theorem BoxC.past {W W' : World} {b : Nat} {t e : TypeId} {cs : Array Value} (h : BoxC W b t cs) (hte : t ≠ e) {base size k : Nat} {v : Value} {xs : List Value} (hr : W.ownsRow base e size v k xs) (hg : W.grownBy W' v.ownBlock) : BoxC W' b t cs :=
  (hg.block b h.lt (fun e' => row_other (r := (0, 0)) h hte hr e'.symm)).trans h
theorem row_put {W : World} {base : Nat} {e : TypeId} {size k b : Nat} {v : Value} {xs : List Value} {t : TypeId} {cs : Array Value} (hr : W.ownsRow base e size v k xs) (hb : BoxC W b t cs) (hte : t ≠ e) (j : Nat) (u : Value) : (W.setCell ⟨b, j, none⟩ u).ownsRow base e size v k xs :=
  ownsRow_setCell_other hr (row_other (r := (0, 0)) hb hte hr) _
theorem rows_past {W W' : World} {base base' : Nat} {e e' : TypeId} {size size' k k' : Nat} {v u : Value} {xs ys : List Value} (h : W.ownsRow base e size u k xs) (hr : W.ownsRow base' e' size' v k' ys) (hte : e ≠ e') (hg : W.grownBy W' v.ownBlock) : W'.ownsRow base e size u k xs := by
  refine h.kept hg ?_
  rcases h.2 with ⟨rfl, _⟩ | ⟨g, cap, cur, rfl, _, hgb, _⟩
  · exact .inl rfl
  · exact .inr fun e2 => row_other hgb hte hr e2.symm
end Go.Proofs.YtgjebjoaemeeoaaGreatDoor.kit
namespace Go.Proofs.YtgjebjoaemeeoaaGreatDoor.kit
open Go.ChangeShapes Go.WideShapes Go.ChangeAt Go.RowKit
set_option linter.unusedVariables false
set_option linter.unusedSimpArgs false
section
variable {P : Program} {ops : Array Oper} {Q : Exit → Act → World → Prop}
theorem region_reachR {id : Nat} {a : Act} {wk : World} {m : Nat} (R : World → World → Prop) (hrefl : R wk wk.drew) (htr : ∀ a b c, R a b → R b c → R a c) (ds : List Nat) (F : Nat → Value → World → Prop) (hm : P.follows .mixedOrders = true) (hmn : m ≤ ops.size) (hds : ds.length = m) (hnd : ds.Nodup)
    (hdep : okDeps ops m = true) (htw : okReach ops m = true) (hQ : ∀ c d v a w, Q (.panic c) (Act.put a (some d) v) w → Q (.panic c) a w) (hmono : ∀ i v w w', F i v w → R w w' → F i v w')
    (hstep : ∀ i, i < m → ∀ vs w, R wk w → (∀ j ∈ deps ops i, F j (vs j) w) →
      wpOp P ops Q i (fun a' w' => ∃ v, a' = (lay ds vs 0 a).put (some (ds.getD i 0)) v ∧ R w w' ∧ F i v w') (lay ds vs 0 a) w)
    (htail : ∀ vs w, R wk w → (∀ j, j < m → F j (vs j) w) → wpAny P .any ops Q (ops.size - m) (doneTo ops.size m) (lay ds vs 0 a) w) :
    (Code.region id ops true).wp P Q a wk := by
  have hdf : ∀ k, k < m → ds[k]? = some (ds.getD k 0) := fun k hk => by
    rw [List.getElem?_eq_getElem (by omega)]; simp [List.getD, List.getElem?_eq_getElem (show k < ds.length by omega)]
  have key : ∀ (u : Nat) (ls : Array Bool) (vs : Nat → Value) (w : World), undone m ls = u → ls.size = ops.size → (∀ j, m ≤ j → j < ops.size → ls.getD j true = false) → R wk w →
      (∀ i, ls.getD i false = true → ∀ j ∈ deps ops i, ls.getD j false = true) →
      (∀ j, j < m → ls.getD j false = true → F j (vs j) w) → wpAny P .any ops Q (u + (ops.size - m)) ls (lay ds vs 0 a) w := by
    intro u
    induction u with
    | zero =>
      intro ls vs w hu hsz hrest hB hcl hF
      have hd := undone_zero m ls hu
      have e : ls = doneTo ops.size m := by
        apply Array.ext (by simp [doneTo, hsz])
        intro i h1 h2
        by_cases h : i < m
        · have := hd i h; simp [h1] at this; simp [doneTo, h, this]
        · have := hrest i (by omega) (by omega); simp [h1] at this; simp [doneTo, h, this]
      rw [Nat.zero_add, e]
      exact htail vs w hB (fun j hj => hF j hj (hd j hj))
    | succ u ih =>
      intro ls vs w hu hsz hrest hB hcl hF
      obtain ⟨i0, hi0, hl0, hlow⟩ := undone_pos m ls (by omega)
      rw [show u + 1 + (ops.size - m) = (u + (ops.size - m)) + 1 by omega]
      refine ⟨fun h => ?_, fun i hi => ?_⟩
      · exfalso
        have hlt : i0 < ops.size := by omega
        have hin : i0 ∈ Region.ready .any ops ls := by
          refine mem_ready.2 ⟨?_, ops[i0], by simp [hlt], fun e he hb => ?_⟩
          · rcases Nat.lt_or_ge i0 ls.size with h' | h'
            · simp [h'] at hl0 ⊢; exact hl0
            · omega
          · apply hlow
            have h1 := List.all_eq_true.1 hdep i0 (List.mem_range.2 hi0)
            have h2 := List.all_eq_true.1 h1 e.on (by
              unfold deps
              rw [show ops[i0]? = some ops[i0] by simp [hlt]]
              exact List.mem_map.2 ⟨e, List.mem_filter.2 ⟨by simpa using he, hb⟩, rfl⟩)
            exact of_decide_eq_true h2
        rw [h] at hin
        cases hin
      · obtain ⟨hjun, o, ho, hall⟩ := mem_ready.1 hi
        have hilt : i < ops.size := (Array.getElem?_eq_some_iff.1 ho).1
        have hcl' : ∀ i', (ls.setIfInBounds i true).getD i' false = true → ∀ j ∈ deps ops i', (ls.setIfInBounds i true).getD j false = true := fun i' h' j hj => by
          by_cases e : i = i'
          · subst e; exact set_keep hjun (dep_done ho hall hj)
          · rw [getD_set_ne false e] at h'; exact set_keep hjun (hcl i' h' j hj)
        by_cases him : i < m
        · refine wpOp_mono ?_ (hstep i him vs w hB (fun j hj => hF j ?_ (dep_done ho hall hj)))
          · rintro a' w' ⟨v, rfl, hb, hFi⟩
            have hdi : ds[i]? = some (ds.getD i 0) := by
              rw [List.getElem?_eq_getElem (by omega)]; simp [List.getD, List.getElem?_eq_getElem (show i < ds.length by omega)]
            rw [lay_put ds vs 0 a i _ v hdi hnd, Nat.zero_add]
            refine ih _ _ _ (by have := undone_set m ls i him hjun; omega) (by simp [hsz]) (fun j h1 h2 => ?_) (htr _ _ _ hB hb) hcl' (fun j h1 h2 => ?_)
            · rw [getD_set_ne true (show i ≠ j by omega)]; exact hrest j h1 h2
            · by_cases e : j = i
              · subst e; unfold upd; rw [if_pos rfl]; exact hFi
              · rw [getD_set_ne false (Ne.symm e)] at h2
                unfold upd; rw [if_neg e]
                exact hmono j _ _ _ (hF j h1 h2) hb
          · have h1 := List.all_eq_true.1 hdep i (List.mem_range.2 him)
            have := of_decide_eq_true (List.all_eq_true.1 h1 j hj)
            omega
        · exfalso
          have h1 := List.all_eq_true.1 htw i (List.mem_range.2 hilt)
          simp only [him, decide_false, Bool.false_or] at h1
          have h2 := List.all_eq_true.1 h1 i0 (List.mem_range.2 hi0)
          have := reach_done hcl m _ (fun j hj => dep_done ho hall hj) i0 (List.contains_iff_mem.1 h2)
          rw [hl0] at this
          cases this
  refine wp_region_any hm ?_
  have hl : lay ds (fun i => a.tmps.getD (ds.getD i 0) undef) 0 a = a := lay_self ds _ 0 a (fun k d hk => by simp [List.getD, hk])
  have hfalse : ∀ j, (Array.replicate ops.size false).getD j false = false := fun j => by
    rcases Nat.lt_or_ge j ops.size with h | h
    · simp [h]
    · simp [h]
  have := key m (Array.replicate ops.size false) (fun i => a.tmps.getD (ds.getD i 0) undef) wk.drew (undone_all _ _) (by simp) (fun j _ hj => by simp [hj]) hrefl (fun i h => by rw [hfalse i] at h; cases h) (fun j hj h => by rw [hfalse j] at h; cases h)
  rw [hl, show m + (ops.size - m) = ops.size by omega] at this
  exact this
end
def MonoR (R : World → World → Prop) (f : Value → World → Prop) : Prop := ∀ v w w', f v w → R w w' → f v w'
def AllMonoR (R : World → World → Prop) : List (Value → World → Prop) → Prop
  | [] => True
  | f :: fs => MonoR R f ∧ AllMonoR R fs
theorem Fs_monoR {R : World → World → Prop} : ∀ {fs : List (Value → World → Prop)}, AllMonoR R fs → ∀ i v w w', Fs fs i v w → R w w' → Fs fs i v w'
  | [], _, _, _, _, _, _, _ => trivial
  | f :: fs, h, 0, v, w, w', hf, hb => h.1 v w w' hf hb
  | f :: fs, h, i + 1, v, w, w', hf, hb => Fs_monoR (fs := fs) h.2 i v w w' hf hb
theorem isV_monoR (R : World → World → Prop) (x : Value) : MonoR R (isV x) := fun _ _ _ h _ => h
end Go.Proofs.YtgjebjoaemeeoaaGreatDoor.kit
namespace Go.Proofs.YtgjebjoaemeeoaaGreatDoor.kit
open Go.ChangeShapes Go.WideShapes Go.ChangeAt Go.RowKit
set_option linter.unusedVariables false
set_option linter.unusedSimpArgs false

theorem row_other2 {W : World} {base ga : Nat} {v : Value} {l : List Sess} (hr : OwnS base W v l) {b1 n c : Nat} {L : List Int} (hb : OwnI b1 W (.slice (some ⟨ga, 0, none⟩) n c) L) (hte : 3 ≠ 98) (j : Nat) (u : Value) : OwnS base (W.setCell ⟨ga, j, none⟩ u) v l := by
  refine ownsRow_setCell_other hr ?_ _
  rcases hb.2 with ⟨hv, _⟩ | ⟨q, cap, cur, hv, _, hgb, _⟩
  · cases hv
  · cases hv
    exact row_other hgb hte hr
theorem cellI {b ga n c : Nat} {w : World} {l : List Int} (h : OwnI b w (.slice (some ⟨ga, 0, none⟩) n c) l) (j : Nat) (hj : j < l.length) : w.cell? ⟨ga, j, none⟩ = some (.int .i64 (l.getD j 0)) := by
  rcases h.2 with ⟨hv, _⟩ | ⟨q, cap, cur, hv, hg, hh, _⟩
  · cases hv
  · cases hv
    have := h.row.cellAt j (by omega)
    rw [this]
    simp [List.getD, hj]
def isJ (lo hi : Int) : Value → World → Prop := fun v _ => ∃ y : Int, v = .int .i64 y ∧ lo ≤ y ∧ y < hi
theorem isJ_monoR (R : World → World → Prop) (lo hi : Int) : MonoR R (isJ lo hi) := fun _ _ _ h _ => h
def isFit : Value → World → Prop := fun v _ => ∃ y : Int, v = .int .i64 y ∧ fits y
theorem isFit_monoR (R : World → World → Prop) : MonoR R isFit := fun _ _ _ h _ => h
def isRes : Value → World → Prop := fun v _ => ∃ y : Int, v = .agg #[.bool false, .int .i64 y]
theorem isRes_monoR (R : World → World → Prop) : MonoR R isRes := fun _ _ _ h _ => h
def isSesV : Value → World → Prop := fun v _ => ∃ c s y : Int, v = .agg #[.int .i64 c, .int .i64 s, .bool false, .int .i64 y]
theorem isSesV_monoR (R : World → World → Prop) : MonoR R isSesV := fun _ _ _ h _ => h
def isLit (g n : Nat) (zs : List Int) : Value → World → Prop := fun v w => ∃ b, v = .slice (some ⟨b, 0, none⟩) n n ∧ w.heap[b]? = some (.cells ((zs.map (Value.int .i64)).toArray) 3 (0, 0)) ∧ b ≠ g
theorem isLit_monoR (g n : Nat) (zs : List Int) : MonoR (Drew g) (isLit g n zs) := fun _ _ _ ⟨b, h, h1, h2⟩ hd => ⟨b, h, (hd.1.block b (Array.getElem?_eq_some_iff.1 h1).1 (fun e => h2 (Option.some.inj e))).trans h1, h2⟩
def isSesL (g : Nat) : Value → World → Prop := fun v w => ∃ (b : Nat) (c s y : Int), v = .slice (some ⟨b, 0, none⟩) 1 1 ∧ BoxC w b 98 #[.int .i64 c, .int .i64 s, .bool false, .int .i64 y] ∧ b ≠ g
theorem isSesL_monoR (g : Nat) : MonoR (Drew g) (isSesL g) := fun _ _ _ ⟨b, c, s, y, h, h1, h2⟩ hd => ⟨b, c, s, y, h, h1.drewn hd h2, h2⟩
def isAt (ga n : Nat) : Value → World → Prop := fun v _ => ∃ j : Nat, j < n ∧ v = .pointer (some ⟨ga, j, none⟩)
theorem isAt_monoR (R : World → World → Prop) (ga n : Nat) : MonoR R (isAt ga n) := fun _ _ _ h _ => h
theorem srcS_box {w : World} {b : Nat} {c s y : Int} (h : BoxC w b 98 #[.int .i64 c, .int .i64 s, .bool false, .int .i64 y]) : SrcS w.heap.size w (.slice (some ⟨b, 0, none⟩) 1 1) [(c, s, false, y)] := by
  refine .inr ⟨b, 0, 1, rfl, h.lt, fun j hj => ?_⟩
  obtain rfl : j = 0 := by simpa using hj
  exact ⟨h.c 0 rfl, h.c 1 rfl, h.c 2 rfl, h.c 3 rfl⟩
/-- some machine, its objects perhaps a part of a row -/
def MachAll (g : Nat) (w : World) (e : Ending) (w' : World) : Prop := ∃ (u1 u2 : Value) (L : List Int) (M : List Sess), e = .returned (.agg #[u1, u2]) ∧ L.length ≤ 3 ∧ M.length ≤ 6 ∧ ObjV w.heap.size w' u1 L ∧ OwnS w.heap.size w' u2 M ∧ Drew g w w'
theorem run_tail (W : World) (ga n cap : Nat) (h : 0 < cap) : (Instr.slice 35 (.slice (some ⟨ga, 0, none⟩) (n + 1) (cap + 1)) (some (.int .i64 1)) none none).run Tryz.prog W = .ok (.slice (some ⟨ga, 1, none⟩) n cap) W := by
  rw [run_slice_l (P := Tryz.prog) W 35 (some ⟨ga, 0, none⟩) (n + 1) (cap + 1) (by kernel_rfl) .i64 1 (by omega) (by omega)]
  have hs : (sizeOf (Tryz.prog.elem 35)).run Tryz.prog W = .ok 1 W := by kernel_rfl
  rw [hs]
  show Result.ok (sliced (some ⟨ga, 0, none⟩) 1 (n + 1) (cap + 1) 1) W = _
  unfold sliced
  have e : ¬ cap = 0 := by omega
  simp [e, Addr.add]
set_option maxRecDepth 100000 in
set_option maxHeartbeats 8000000 in
theorem any4_any (g : Nat) (w : World) (hc : Cur g w) : Calls Tryz.prog 46 #[.pointer (some ⟨g, 0, none⟩)] w (MachAll g w) := by
  have hgs := hc.lt
  have hng : w.heap.size ≠ g := by omega
  have hD0 := (Drew.refl hc).alloc (.cells #[.slice none 0 0, .slice none 0 0] 44)
  have hR := BoxC.new w 44 #[.slice none 0 0, .slice none 0 0]
  have C1 := Lib.hid (machine_any g _ hD0.2)
  go_enter Tryz.func46, Tryz.ntmps46
  go_wp2_with fail
  refine (C1.out).mono ?_
  rintro e w2 ⟨u1, u2, L, M, rfl, hl3, hm5, ho1, ho2, hd1⟩
  have hsz : w.heap.size ≤ (w.alloc (.cells #[.slice none 0 0, .slice none 0 0] 44)).heap.size := by simp
  have hz2 : w.heap.size < w2.heap.size := (hR.drewn hd1 hng).lt
  have hbX := (Below.refl w2.heap.size w2).alloc (Nat.le_refl _) (.cells #[u1, u2] 44)
  have HR := Lib.hid ((hR.drewn hd1 hng).later hbX)
  have HX := Lib.hid (BoxC.new w2 44 #[u1, u2])
  have HD := Lib.hid ((hD0.trans hd1).alloc (.cells #[u1, u2] 44))
  have HO1 := Lib.hid ((OwnI.mono ho1 hsz).later hbX)
  have HO2 := Lib.hid ((OwnS.mono ho2 hsz).later hbX)
  obtain ⟨ga, c1, rfl, hc1, hcm, _, _⟩ := ho1.there (by omega)
  obtain ⟨a2, c2, rfl⟩ := ho2.shape
  obtain ⟨p, hp⟩ : ∃ p, p = w2.heap.size := ⟨_, rfl⟩
  obtain ⟨w3, hw3⟩ : ∃ q, q = w2.alloc (.cells #[.slice (some ⟨ga, 0, none⟩) L.length c1, .slice a2 M.length c2] 44) := ⟨_, rfl⟩
  rw [← hw3] at HR HX HD HO1 HO2
  rw [← hp] at HX
  have HP := Lib.hid hp
  have HW := Lib.hid hw3
  have hpw : w.heap.size < p := by omega
  have hnp : w.heap.size ≠ p := Nat.ne_of_lt hpw
  have hpg : p ≠ g := by omega
  have C3 := Lib.hid (below_small g 14 w3 (by decide) (by decide) HD.out.2)
  have HL3 := Lib.hid hl3
  have hl3' : L.length ≤ 3 := by omega
  have HCM := Lib.hid hcm
  clear C1 hd1 hD0 hR hbX ho1 ho2 hw3 hp hz2 hsz hcm hl3
  go_wp2_with fail
  rw [← HW.out, ← HP.out]
  clear HW HP
  refine (C3.out).mono ?_
  rintro e w4 ⟨k, rfl, hk0, hk1, hdq⟩
  replace HR := Lib.hid (HR.out.drewn hdq hng)
  replace HX := Lib.hid (HX.out.drewn hdq hpg)
  replace HO1 := Lib.hid (HO1.out.drew hdq hgs)
  replace HO2 := Lib.hid (HO2.out.drew hdq hgs)
  replace HD := Lib.hid (HD.out.trans hdq)
  clear hdq C3
  have HREFL := Lib.hid (show Drew g w4 w4.drew from ⟨grown_drewN (grown_refl w4 (some g)) 1, Cur.below HD.out.2 ((Below.refl w4.heap.size w4).drew) HD.out.2.lt⟩)
  have hk : k = 0 ∨ k = 1 ∨ k = 2 ∨ 3 ≤ k := by omega
  rcases hk with rfl | rfl | rfl | hk
  · clear hk0 hk1
    have hlL : L.length ≤ 4194304 := by omega
    go_upto_region 4 with (fail)
    refine region_reachR (m := 8) (Drew g) HREFL.out (fun _ _ _ h k => Drew.trans h k) [10, 11, 12, 13, 14, 15, 16, 17] (Fs [isV (.pointer (some ⟨p, 0, none⟩)), isV (.slice (some ⟨ga, 0, none⟩) L.length c1), isV (.pointer (some ⟨g, 0, none⟩)), isJ 0 3, isV (.pointer (some ⟨g, 0, none⟩)), isLit g 3 [-1, 9, 10], isFit, isAt ga 3]) (by kernel_rfl) (by decide) rfl (by decide) (by kernel_rfl) (by kernel_rfl) (fun _ _ _ _ _ h => h) (Fs_monoR ⟨isV_monoR _ _, isV_monoR _ _, isV_monoR _ _, isJ_monoR _ _ _, isV_monoR _ _, isLit_monoR _ _ _, isFit_monoR _, isAt_monoR _ _ _, trivial⟩) ?step ?tail
    case step =>
      intro i hi vs wq hBq hd
      rcases (show i = 0 ∨ i = 1 ∨ i = 2 ∨ i = 3 ∨ i = 4 ∨ i = 5 ∨ i = 6 ∨ i = 7 from by omega) with rfl | rfl | rfl | rfl | rfl | rfl | rfl | rfl
      · refine wpOp_step (o := _) rfl (fun K' hK => ?_)
        have HK := Lib.hid hK
        clear hK
        simp only [lay, Act.put, List.setIfInBounds_toArray, List.set_cons_zero, List.set_cons_succ, List.getD_cons_zero, List.getD_cons_succ, id_eq]
        go_simp
        refine HK.out _ _ ⟨_, ?_, Drew.refl hBq.2, rfl⟩
        simp only [lay, Act.put, List.setIfInBounds_toArray, List.set_cons_zero, List.set_cons_succ, List.getD_cons_zero, List.getD_cons_succ, id_eq]
      · have e0' : vs 0 = .pointer (some ⟨p, 0, none⟩) := hd 0 (List.contains_iff_mem.1 (by kernel_rfl))
        have z0 := (HX.out.drewn hBq hpg).c 0 rfl
        refine wpOp_step (o := _) rfl (fun K' hK => ?_)
        have HK := Lib.hid hK
        clear hK
        simp only [lay, Act.put, List.setIfInBounds_toArray, List.set_cons_zero, List.set_cons_succ, List.getD_cons_zero, List.getD_cons_succ, id_eq]
        rw [e0']
        go_simp
        refine HK.out _ _ ⟨_, ?_, Drew.refl hBq.2, rfl⟩
        simp only [lay, Act.put, List.setIfInBounds_toArray, List.set_cons_zero, List.set_cons_succ, List.getD_cons_zero, List.getD_cons_succ, id_eq]
        rw [e0']
      · refine wpOp_step (o := _) rfl (fun K' hK => ?_)
        have HK := Lib.hid hK
        clear hK
        simp only [lay, Act.put, List.setIfInBounds_toArray, List.set_cons_zero, List.set_cons_succ, List.getD_cons_zero, List.getD_cons_succ, id_eq]
        go_simp
        refine HK.out _ _ ⟨_, ?_, Drew.refl hBq.2, rfl⟩
        simp only [lay, Act.put, List.setIfInBounds_toArray, List.set_cons_zero, List.set_cons_succ, List.getD_cons_zero, List.getD_cons_succ, id_eq]
      · have e2' : vs 2 = .pointer (some ⟨g, 0, none⟩) := hd 2 (List.contains_iff_mem.1 (by kernel_rfl))
        refine wpOp_step (o := _) rfl (fun K' hK => ?_)
        have HK := Lib.hid hK
        clear hK
        simp only [lay, Act.put, List.setIfInBounds_toArray, List.set_cons_zero, List.set_cons_succ, List.getD_cons_zero, List.getD_cons_succ, id_eq]
        rw [e2']
        go_simp
        go_at_call 64
        refine (below_small g 3 wq (by decide) (by decide) hBq.2).mono ?_
        rintro e w2 ⟨y, rfl, hy0, hy1, hd⟩
        refine HK.out _ _ ⟨_, ?_, hd, ⟨y, rfl, hy0, hy1⟩⟩
        simp only [lay, Act.put, List.setIfInBounds_toArray, List.set_cons_zero, List.set_cons_succ, List.getD_cons_zero, List.getD_cons_succ, id_eq]
        rw [e2']
      · refine wpOp_step (o := _) rfl (fun K' hK => ?_)
        have HK := Lib.hid hK
        clear hK
        simp only [lay, Act.put, List.setIfInBounds_toArray, List.set_cons_zero, List.set_cons_succ, List.getD_cons_zero, List.getD_cons_succ, id_eq]
        go_simp
        refine HK.out _ _ ⟨_, ?_, Drew.refl hBq.2, rfl⟩
        simp only [lay, Act.put, List.setIfInBounds_toArray, List.set_cons_zero, List.set_cons_succ, List.getD_cons_zero, List.getD_cons_succ, id_eq]
      · refine wpOp_step (o := _) rfl (fun K' hK => ?_)
        have HK := Lib.hid hK
        clear hK
        simp only [lay, Act.put, List.setIfInBounds_toArray, List.set_cons_zero, List.set_cons_succ, List.getD_cons_zero, List.getD_cons_succ, id_eq]
        go_simp
        refine HK.out _ _ ⟨_, ?_, (Drew.refl hBq.2).alloc _, ⟨_, rfl, heap_alloc_new _ _, Nat.ne_of_gt hBq.2.lt⟩⟩
        simp only [lay, Act.put, List.setIfInBounds_toArray, List.set_cons_zero, List.set_cons_succ, List.getD_cons_zero, List.getD_cons_succ, id_eq]
      · have e4' : vs 4 = .pointer (some ⟨g, 0, none⟩) := hd 4 (List.contains_iff_mem.1 (by kernel_rfl))
        have hl5 : isLit g 3 [-1, 9, 10] (vs 5) wq := hd 5 (List.contains_iff_mem.1 (by kernel_rfl))
        cases hl5 with | intro b5 hl5 =>
        have e5' := hl5.1
        have k5 := hl5.2.1
        have n5 := hl5.2.2
        clear hl5
        refine wpOp_step (o := _) rfl (fun K' hK => ?_)
        have HK := Lib.hid hK
        clear hK
        simp only [lay, Act.put, List.setIfInBounds_toArray, List.set_cons_zero, List.set_cons_succ, List.getD_cons_zero, List.getD_cons_succ, id_eq]
        rw [e4', e5']
        go_simp
        go_at_call 65
        refine (pickInt_any g b5 3 _ wq (by decide) (by decide) hBq.2 k5 n5 (litsI [-1, 9, 10] (by unfold fits; decide))).mono ?_
        rintro e w2 ⟨y, rfl, hf, hd⟩
        refine HK.out _ _ ⟨_, ?_, hd, ⟨y, rfl, hf⟩⟩
        simp only [lay, Act.put, List.setIfInBounds_toArray, List.set_cons_zero, List.set_cons_succ, List.getD_cons_zero, List.getD_cons_succ, id_eq]
        rw [e4', e5']
      · have e1' : vs 1 = .slice (some ⟨ga, 0, none⟩) L.length c1 := hd 1 (List.contains_iff_mem.1 (by kernel_rfl))
        have hj3 : isJ 0 3 (vs 3) wq := hd 3 (List.contains_iff_mem.1 (by kernel_rfl))
        cases hj3 with | intro j hj3 =>
        have e3' := hj3.1
        have j0 : 0 ≤ j := hj3.2.1
        have j1 : j < 3 := hj3.2.2
        cases Int.eq_ofNat_of_zero_le j0 with | intro jn hjn =>
        subst hjn
        have j2 : jn < L.length := by have := HL3.out; omega
        have j4 : (jn : Int) < (L.length : Int) := by omega
        have j5 : jn < 3 := by omega
        clear hj3
        refine wpOp_step (o := _) rfl (fun K' hK => ?_)
        have HK := Lib.hid hK
        clear hK
        simp only [lay, Act.put, List.setIfInBounds_toArray, List.set_cons_zero, List.set_cons_succ, List.getD_cons_zero, List.getD_cons_succ, id_eq]
        rw [e1', e3']
        go_simp
        refine HK.out _ _ ⟨_, ?_, Drew.refl hBq.2, ⟨jn, j5, rfl⟩⟩
        simp only [lay, Act.put, List.setIfInBounds_toArray, List.set_cons_zero, List.set_cons_succ, List.getD_cons_zero, List.getD_cons_succ, id_eq]
        rw [e1', e3']
    case tail =>
      intro vs wq hBq hf
      simp only [lay, Act.put, List.setIfInBounds_toArray, List.set_cons_zero, List.set_cons_succ, List.getD_cons_zero, List.getD_cons_succ, id_eq]
      have h7 : isAt ga 3 (vs 7) wq := hf 7 (by decide)
      cases h7 with | intro j h7 =>
      have e7 := h7.2
      have hj := h7.1
      have h6 : isFit (vs 6) wq := hf 6 (by decide)
      cases h6 with | intro y h6 =>
      have e6 := h6.1
      clear h6 h7
      rw [e6, e7]
      clear e6 e7
      refine any_all (rs := [8]) (by kernel_rfl) (by simp) ?_
      intro i hi
      simp only [List.mem_cons, List.not_mem_nil, or_false] at hi
      subst hi
      refine wpOp_step (o := _) rfl (fun K' hK => ?_)
      have HK := Lib.hid hK
      clear hK
      have HOq := HO1.out.drew hBq hgs
      have hz := cellI HOq j (by have := HL3.out; omega)
      have hzf := HOq.row.frozenAt j
      go_simp
      refine HK.out _ _ ?_
      clear HK K' hz hzf
      try simp only [Act.put, List.setIfInBounds_toArray, List.set_cons_zero, List.set_cons_succ]
      refine any_done (by kernel_rfl) ?_ _
      have hXq := HX.out.drewn hBq hpg
      have hRq := HR.out.drewn hBq hng
      have HOq := HO1.out.drew hBq hgs
      have hj3 : j < L.length := by have := HL3.out; omega
      have hne1 : p ≠ ga := fun e => (row_otherI HOq hXq (by decide)) (by rw [e]; rfl)
      have hne2 : w.heap.size ≠ ga := fun e => (row_otherI HOq hRq (by decide)) (by rw [e]; rfl)
      have hga := (OwnI.block HOq ga rfl).1
      have HS := Lib.hid (HOq.storedAt j hj3 y).1
      have hM := row_other2 (HO2.out.drew hBq hgs) HOq (by decide) j (.int .i64 y)
      replace HX := Lib.hid (hXq.keep hne1 j (.int .i64 y))
      replace HR := Lib.hid (hRq.keep hne2 j (.int .i64 y))
      replace HD := Lib.hid ((HD.out.trans hBq).setC hga hgs j (.int .i64 y))
      have HM := Lib.hid hM
      have HV := Lib.hid (show ObjV w.heap.size (wq.setCell ⟨ga, j, none⟩ (.int .i64 y)) (.slice (some ⟨ga, 0, none⟩) L.length c1) (L.set j y) from .inl HS.out)
      have hls : (L.set j y).length ≤ 3 := by rw [List.length_set]; exact hl3'
      clear hM hXq hRq HOq hga HREFL HO1 HO2 HS hBq
      have hr0 := HR.out.c 0 rfl
      have hr1 := HR.out.c 1 rfl
      have hf0 := HR.out.f 0
      have hf1 := HR.out.f 1
      have hx0 := HX.out.c 0 rfl
      have hx1 := HX.out.c 1 rfl
      have hg0 := HX.out.f 0
      have hg1 := HX.out.f 1
      clear hj hj3
      go_wp2_with fail
      refine bodyPost_ret (v := .agg #[.slice (some ⟨ga, 0, none⟩) L.length c1, .slice a2 M.length c2]) (by simp [results, Tryz.results46, go_sem, hr0, hr1, hnp]) rfl ?_
      refine ⟨_, _, L.set j y, M, rfl, hls, by omega, ?_, ?_, ?_⟩
      · exact (HV.out.put HR.out (by decide) 0 _).put (HR.out.put 0 _) (by decide) 1 _
      · exact row_put (row_put HM.out HR.out (by decide) 0 _) (HR.out.put 0 _) (by decide) 1 _
      · exact (HD.out.setC (Nat.le_refl _) hgs 0 _).setC (Nat.le_refl _) hgs 1 _
  · clear hk0 hk1
    obtain ⟨x0, L', rfl⟩ : ∃ x l, L = x :: l := by
      cases L with
      | nil => have := HL3.out; simp at this
      | cons x l => exact ⟨x, l, rfl⟩
    have hL2 : L'.length = 2 := by have := HL3.out; simpa using this
    obtain ⟨c0, rfl⟩ : ∃ c0, c1 = c0 + 1 := ⟨c1 - 1, by simp at hc1; omega⟩
    have HPT := Lib.hid (OwnI.tail (c' := c0) HO1.out)
    have RT := fun W => run_tail W ga L'.length c0 (by simp at hc1; omega)
    rw [List.length_cons] at HX HO1
    have HL2 := Lib.hid hL2
    clear hL2 hc1 hl3'
    have hr0 := HR.out.c 0 rfl
    have hr1 := HR.out.c 1 rfl
    have hf0 := HR.out.f 0
    have hf1 := HR.out.f 1
    have hx0 := HX.out.c 0 rfl
    have hx1 := HX.out.c 1 rfl
    have hg0 := HX.out.f 0
    have hg1 := HX.out.f 1
    go_wp2_with fail
    replace HR := Lib.hid (HR.out.keep hnp 0 (.slice (some ⟨ga, 1, none⟩) L'.length c0))
    have HV := Lib.hid (show ObjV w.heap.size _ (.slice (some ⟨ga, 1, none⟩) L'.length c0) L' from .inr ⟨by rw [HL2.out]; decide, HPT.out.put HX.out (by decide) 0 (.slice (some ⟨ga, 1, none⟩) L'.length c0)⟩)
    replace HO2 := Lib.hid (row_put HO2.out.row HX.out (by decide) 0 (.slice (some ⟨ga, 1, none⟩) L'.length c0))
    replace HD := Lib.hid (HD.out.setC (Nat.le_of_lt hpw) hgs 0 (.slice (some ⟨ga, 1, none⟩) L'.length c0))
    refine bodyPost_ret (v := .agg #[.slice (some ⟨ga, 1, none⟩) L'.length c0, .slice a2 M.length c2]) (by simp [results, Tryz.results46, go_sem, hr0, hr1, hnp]) rfl ?_
    refine ⟨_, _, L', M, rfl, by rw [HL2.out]; decide, by omega, ?_, ?_, ?_⟩
    · exact (HV.out.put HR.out (by decide) 0 _).put (HR.out.put 0 _) (by decide) 1 _
    · exact row_put (row_put HO2.out HR.out (by decide) 0 _) (HR.out.put 0 _) (by decide) 1 _
    · exact (HD.out.setC (Nat.le_refl _) hgs 0 _).setC (Nat.le_refl _) hgs 1 _
  · clear hk0 hk1
    go_upto_region 8 with (fail)
    refine region_reachR (m := 12) (Drew g) HREFL.out (fun _ _ _ h k => Drew.trans h k) [26, 27, 28, 29, 30, 31, 32, 33, 34, 35, 36, 37] (Fs [isV (.pointer (some ⟨p, 1, none⟩)), isV (.slice a2 M.length c2), isV (.pointer (some ⟨g, 0, none⟩)), isJ 0 4, isV (.pointer (some ⟨g, 0, none⟩)), isJ 0 3, isV (.pointer (some ⟨g, 0, none⟩)), isLit g 2 [0, 10], isFit, isRes, isSesV, isSesL g]) (by kernel_rfl) (by decide) rfl (by decide) (by kernel_rfl) (by kernel_rfl) (fun _ _ _ _ _ h => h) (Fs_monoR ⟨isV_monoR _ _, isV_monoR _ _, isV_monoR _ _, isJ_monoR _ _ _, isV_monoR _ _, isJ_monoR _ _ _, isV_monoR _ _, isLit_monoR _ _ _, isFit_monoR _, isRes_monoR _, isSesV_monoR _, isSesL_monoR _, trivial⟩) ?step ?tail
    case step =>
      intro i hi vs wq hBq hd
      rcases (show i = 0 ∨ i = 1 ∨ i = 2 ∨ i = 3 ∨ i = 4 ∨ i = 5 ∨ i = 6 ∨ i = 7 ∨ i = 8 ∨ i = 9 ∨ i = 10 ∨ i = 11 from by omega) with rfl | rfl | rfl | rfl | rfl | rfl | rfl | rfl | rfl | rfl | rfl | rfl
      · refine wpOp_step (o := _) rfl (fun K' hK => ?_)
        have HK := Lib.hid hK
        clear hK
        simp only [lay, Act.put, List.setIfInBounds_toArray, List.set_cons_zero, List.set_cons_succ, List.getD_cons_zero, List.getD_cons_succ, id_eq]
        go_simp
        refine HK.out _ _ ⟨_, ?_, Drew.refl hBq.2, rfl⟩
        simp only [lay, Act.put, List.setIfInBounds_toArray, List.set_cons_zero, List.set_cons_succ, List.getD_cons_zero, List.getD_cons_succ, id_eq]
      · have e0' : vs 0 = .pointer (some ⟨p, 1, none⟩) := hd 0 (List.contains_iff_mem.1 (by kernel_rfl))
        have z0 := (HX.out.drewn hBq hpg).c 1 rfl
        refine wpOp_step (o := _) rfl (fun K' hK => ?_)
        have HK := Lib.hid hK
        clear hK
        simp only [lay, Act.put, List.setIfInBounds_toArray, List.set_cons_zero, List.set_cons_succ, List.getD_cons_zero, List.getD_cons_succ, id_eq]
        rw [e0']
        go_simp
        refine HK.out _ _ ⟨_, ?_, Drew.refl hBq.2, rfl⟩
        simp only [lay, Act.put, List.setIfInBounds_toArray, List.set_cons_zero, List.set_cons_succ, List.getD_cons_zero, List.getD_cons_succ, id_eq]
        rw [e0']
      · refine wpOp_step (o := _) rfl (fun K' hK => ?_)
        have HK := Lib.hid hK
        clear hK
        simp only [lay, Act.put, List.setIfInBounds_toArray, List.set_cons_zero, List.set_cons_succ, List.getD_cons_zero, List.getD_cons_succ, id_eq]
        go_simp
        refine HK.out _ _ ⟨_, ?_, Drew.refl hBq.2, rfl⟩
        simp only [lay, Act.put, List.setIfInBounds_toArray, List.set_cons_zero, List.set_cons_succ, List.getD_cons_zero, List.getD_cons_succ, id_eq]
      · have e2' : vs 2 = .pointer (some ⟨g, 0, none⟩) := hd 2 (List.contains_iff_mem.1 (by kernel_rfl))
        refine wpOp_step (o := _) rfl (fun K' hK => ?_)
        have HK := Lib.hid hK
        clear hK
        simp only [lay, Act.put, List.setIfInBounds_toArray, List.set_cons_zero, List.set_cons_succ, List.getD_cons_zero, List.getD_cons_succ, id_eq]
        rw [e2']
        go_simp
        go_at_call 64
        refine (below_small g 4 wq (by decide) (by decide) hBq.2).mono ?_
        rintro e w2 ⟨y, rfl, hy0, hy1, hd⟩
        refine HK.out _ _ ⟨_, ?_, hd, ⟨y, rfl, hy0, hy1⟩⟩
        simp only [lay, Act.put, List.setIfInBounds_toArray, List.set_cons_zero, List.set_cons_succ, List.getD_cons_zero, List.getD_cons_succ, id_eq]
        rw [e2']
      · refine wpOp_step (o := _) rfl (fun K' hK => ?_)
        have HK := Lib.hid hK
        clear hK
        simp only [lay, Act.put, List.setIfInBounds_toArray, List.set_cons_zero, List.set_cons_succ, List.getD_cons_zero, List.getD_cons_succ, id_eq]
        go_simp
        refine HK.out _ _ ⟨_, ?_, Drew.refl hBq.2, rfl⟩
        simp only [lay, Act.put, List.setIfInBounds_toArray, List.set_cons_zero, List.set_cons_succ, List.getD_cons_zero, List.getD_cons_succ, id_eq]
      · have e4' : vs 4 = .pointer (some ⟨g, 0, none⟩) := hd 4 (List.contains_iff_mem.1 (by kernel_rfl))
        refine wpOp_step (o := _) rfl (fun K' hK => ?_)
        have HK := Lib.hid hK
        clear hK
        simp only [lay, Act.put, List.setIfInBounds_toArray, List.set_cons_zero, List.set_cons_succ, List.getD_cons_zero, List.getD_cons_succ, id_eq]
        rw [e4']
        go_simp
        go_at_call 64
        refine (below_small g 3 wq (by decide) (by decide) hBq.2).mono ?_
        rintro e w2 ⟨y, rfl, hy0, hy1, hd⟩
        refine HK.out _ _ ⟨_, ?_, hd, ⟨y, rfl, hy0, hy1⟩⟩
        simp only [lay, Act.put, List.setIfInBounds_toArray, List.set_cons_zero, List.set_cons_succ, List.getD_cons_zero, List.getD_cons_succ, id_eq]
        rw [e4']
      · refine wpOp_step (o := _) rfl (fun K' hK => ?_)
        have HK := Lib.hid hK
        clear hK
        simp only [lay, Act.put, List.setIfInBounds_toArray, List.set_cons_zero, List.set_cons_succ, List.getD_cons_zero, List.getD_cons_succ, id_eq]
        go_simp
        refine HK.out _ _ ⟨_, ?_, Drew.refl hBq.2, rfl⟩
        simp only [lay, Act.put, List.setIfInBounds_toArray, List.set_cons_zero, List.set_cons_succ, List.getD_cons_zero, List.getD_cons_succ, id_eq]
      · refine wpOp_step (o := _) rfl (fun K' hK => ?_)
        have HK := Lib.hid hK
        clear hK
        simp only [lay, Act.put, List.setIfInBounds_toArray, List.set_cons_zero, List.set_cons_succ, List.getD_cons_zero, List.getD_cons_succ, id_eq]
        go_simp
        refine HK.out _ _ ⟨_, ?_, (Drew.refl hBq.2).alloc _, ⟨_, rfl, heap_alloc_new _ _, Nat.ne_of_gt hBq.2.lt⟩⟩
        simp only [lay, Act.put, List.setIfInBounds_toArray, List.set_cons_zero, List.set_cons_succ, List.getD_cons_zero, List.getD_cons_succ, id_eq]
      · have e6' : vs 6 = .pointer (some ⟨g, 0, none⟩) := hd 6 (List.contains_iff_mem.1 (by kernel_rfl))
        have hl7 : isLit g 2 [0, 10] (vs 7) wq := hd 7 (List.contains_iff_mem.1 (by kernel_rfl))
        cases hl7 with | intro b7 hl7 =>
        have e7' := hl7.1
        have k7 := hl7.2.1
        have n7 := hl7.2.2
        clear hl7
        refine wpOp_step (o := _) rfl (fun K' hK => ?_)
        have HK := Lib.hid hK
        clear hK
        simp only [lay, Act.put, List.setIfInBounds_toArray, List.set_cons_zero, List.set_cons_succ, List.getD_cons_zero, List.getD_cons_succ, id_eq]
        rw [e6', e7']
        go_simp
        go_at_call 65
        refine (pickInt_any g b7 2 _ wq (by decide) (by decide) hBq.2 k7 n7 (litsI [0, 10] (by unfold fits; decide))).mono ?_
        rintro e w2 ⟨y, rfl, hf, hd⟩
        refine HK.out _ _ ⟨_, ?_, hd, ⟨y, rfl, hf⟩⟩
        simp only [lay, Act.put, List.setIfInBounds_toArray, List.set_cons_zero, List.set_cons_succ, List.getD_cons_zero, List.getD_cons_succ, id_eq]
        rw [e6', e7']
      · have hl8 : isFit (vs 8) wq := hd 8 (List.contains_iff_mem.1 (by kernel_rfl))
        cases hl8 with | intro y hl8 =>
        have e8' := hl8.1
        refine wpOp_step (o := _) rfl (fun K' hK => ?_)
        have HK := Lib.hid hK
        clear hK
        simp only [lay, Act.put, List.setIfInBounds_toArray, List.set_cons_zero, List.set_cons_succ, List.getD_cons_zero, List.getD_cons_succ, id_eq]
        rw [e8']
        go_simp
        refine HK.out _ _ ⟨_, ?_, Drew.refl hBq.2, ⟨y, rfl⟩⟩
        simp only [lay, Act.put, List.setIfInBounds_toArray, List.set_cons_zero, List.set_cons_succ, List.getD_cons_zero, List.getD_cons_succ, id_eq]
        rw [e8']
      · have hl3 : isJ 0 4 (vs 3) wq := hd 3 (List.contains_iff_mem.1 (by kernel_rfl))
        cases hl3 with | intro x3 hl3 =>
        have e3' := hl3.1
        have hl5 : isJ 0 3 (vs 5) wq := hd 5 (List.contains_iff_mem.1 (by kernel_rfl))
        cases hl5 with | intro x5 hl5 =>
        have e5' := hl5.1
        have hl9 : isRes (vs 9) wq := hd 9 (List.contains_iff_mem.1 (by kernel_rfl))
        cases hl9 with | intro x9 hl9 =>
        have e9' := hl9
        refine wpOp_step (o := _) rfl (fun K' hK => ?_)
        have HK := Lib.hid hK
        clear hK
        simp only [lay, Act.put, List.setIfInBounds_toArray, List.set_cons_zero, List.set_cons_succ, List.getD_cons_zero, List.getD_cons_succ, id_eq]
        rw [e3', e5', e9']
        go_simp
        refine HK.out _ _ ⟨_, ?_, Drew.refl hBq.2, ⟨x3, x5, x9, rfl⟩⟩
        simp only [lay, Act.put, List.setIfInBounds_toArray, List.set_cons_zero, List.set_cons_succ, List.getD_cons_zero, List.getD_cons_succ, id_eq]
        rw [e3', e5', e9']
      · have hl10 : isSesV (vs 10) wq := hd 10 (List.contains_iff_mem.1 (by kernel_rfl))
        cases hl10 with | intro x3 hl10 =>
        cases hl10 with | intro x5 hl10 =>
        cases hl10 with | intro x9 hl10 =>
        have e10' := hl10
        refine wpOp_step (o := _) rfl (fun K' hK => ?_)
        have HK := Lib.hid hK
        clear hK
        simp only [lay, Act.put, List.setIfInBounds_toArray, List.set_cons_zero, List.set_cons_succ, List.getD_cons_zero, List.getD_cons_succ, id_eq]
        rw [e10']
        go_simp
        refine HK.out _ _ ⟨_, ?_, (Drew.refl hBq.2).alloc _, ⟨_, x3, x5, x9, rfl, BoxC.new _ _ _, Nat.ne_of_gt hBq.2.lt⟩⟩
        simp only [lay, Act.put, List.setIfInBounds_toArray, List.set_cons_zero, List.set_cons_succ, List.getD_cons_zero, List.getD_cons_succ, id_eq]
        rw [e10']
    case tail =>
      intro vs wq hBq hf
      simp only [lay, Act.put, List.setIfInBounds_toArray, List.set_cons_zero, List.set_cons_succ, List.getD_cons_zero, List.getD_cons_succ, id_eq]
      have e1 : vs 1 = .slice a2 M.length c2 := hf 1 (by decide)
      have h11 : isSesL g (vs 11) wq := hf 11 (by decide)
      cases h11 with | intro b h11 =>
      cases h11 with | intro x3 h11 =>
      cases h11 with | intro x5 h11 =>
      cases h11 with | intro x9 h11 =>
      have e11 := h11.1
      have hbx := h11.2.1
      clear h11
      rw [e1, e11]
      clear e1 e11
      refine any_all (rs := [12]) (by kernel_rfl) (by simp) ?_
      intro i hi
      simp only [List.mem_cons, List.not_mem_nil, or_false] at hi
      subst hi
      refine wpOp_step (o := _) rfl (fun K' hK => ?_)
      have HK := Lib.hid hK
      clear hK
      have HOq := HO2.out.drew hBq hgs
      have hsl := srcS_box hbx
      refine wp_appS (.tmp 27) (.tmp 37) rfl w.heap.size _ M rfl HOq _ _ [(x3, x5, false, x9)] rfl hsl (by simp; omega) (Nat.le_trans (Nat.le_of_lt HR.out.lt) hBq.1.size) ?_
      intro v' w6 ho6 hb6 hg6
      have hXq := (HX.out.drewn hBq hpg).past (by decide) HOq.row hg6
      have hRq := (HR.out.drewn hBq hng).past (by decide) HOq.row hg6
      have hDq := (HD.out.trans hBq).below hb6 hgs
      have hO1q := rows_past (HO1.out.drew hBq hgs).row HOq.row (by decide) hg6
      have hlm : (M ++ [(x3, x5, false, x9)]).length ≤ 6 := by simp; omega
      generalize M ++ [(x3, x5, false, x9)] = MM at ho6 hlm
      have hsh := OwnS.shape ho6
      cases hsh with | intro va hsh =>
      cases hsh with | intro vc hv =>
      subst hv
      refine HK.out _ _ ?_
      clear HK K' hb6 hg6 hsl HOq hbx
      try simp only [Act.put, List.setIfInBounds_toArray, List.set_cons_zero, List.set_cons_succ]
      refine any_all (rs := [13]) (by kernel_rfl) (by simp) ?_
      intro i hi
      simp only [List.mem_cons, List.not_mem_nil, or_false] at hi
      subst hi
      refine wpOp_step (o := _) rfl (fun K' hK => ?_)
      have HK := Lib.hid hK
      clear hK
      go_simp
      refine HK.out _ _ ?_
      clear HK K'
      try simp only [Act.put, List.setIfInBounds_toArray, List.set_cons_zero, List.set_cons_succ]
      refine any_all (rs := [14]) (by kernel_rfl) (by simp) ?_
      intro i hi
      simp only [List.mem_cons, List.not_mem_nil, or_false] at hi
      subst hi
      refine wpOp_step (o := _) rfl (fun K' hK => ?_)
      have HK := Lib.hid hK
      clear hK
      have r0 := hXq.c 1 rfl
      have f0 := hXq.f 1
      go_simp
      refine HK.out _ _ ?_
      clear HK K' r0 f0
      try simp only [Act.put, List.setIfInBounds_toArray, List.set_cons_zero, List.set_cons_succ]
      refine any_done (by kernel_rfl) ?_ _
      have HS := Lib.hid (row_put ho6.row hXq (by decide) 1 (.slice va MM.length vc))
      have HV := Lib.hid ((show ObjV w.heap.size w6 (.slice (some ⟨ga, 0, none⟩) L.length c1) L from .inl hO1q).put hXq (by decide) 1 (.slice va MM.length vc))
      replace HX := Lib.hid (hXq.put 1 (.slice va MM.length vc))
      replace HR := Lib.hid (hRq.keep hnp 1 (.slice va MM.length vc))
      replace HD := Lib.hid (hDq.setC (Nat.le_of_lt hpw) hgs 1 (.slice va MM.length vc))
      clear hXq hRq hDq hO1q ho6 HREFL HO1 HO2 hBq
      have hr0 := HR.out.c 0 rfl
      have hr1 := HR.out.c 1 rfl
      have hf0 := HR.out.f 0
      have hf1 := HR.out.f 1
      have hx0 := HX.out.c 0 rfl
      have hx1 := HX.out.c 1 rfl
      have hg0 := HX.out.f 0
      have hg1 := HX.out.f 1
      go_wp2_with fail
      refine bodyPost_ret (v := .agg #[.slice (some ⟨ga, 0, none⟩) L.length c1, .slice va MM.length vc]) (by simp [results, Tryz.results46, go_sem, hr0, hr1, hnp]) rfl ?_
      refine ⟨_, _, L, MM, rfl, hl3', hlm, ?_, ?_, ?_⟩
      · exact (HV.out.put HR.out (by decide) 0 _).put (HR.out.put 0 _) (by decide) 1 _
      · exact row_put (row_put HS.out HR.out (by decide) 0 _) (HR.out.put 0 _) (by decide) 1 _
      · exact (HD.out.setC (Nat.le_refl _) hgs 0 _).setC (Nat.le_refl _) hgs 1 _
  · have g0 : (k == 0) = false := by rw [beq_eq_false_iff_ne]; omega
    have g1 : (k == 1) = false := by rw [beq_eq_false_iff_ne]; omega
    have g2 : (k == 2) = false := by rw [beq_eq_false_iff_ne]; omega
    clear hk hk0 hk1
    have HV := Lib.hid (show ObjV w.heap.size w4 (.slice (some ⟨ga, 0, none⟩) L.length c1) L from .inl HO1.out)
    have hr0 := HR.out.c 0 rfl
    have hr1 := HR.out.c 1 rfl
    have hf0 := HR.out.f 0
    have hf1 := HR.out.f 1
    have hx0 := HX.out.c 0 rfl
    have hx1 := HX.out.c 1 rfl
    have hg0 := HX.out.f 0
    have hg1 := HX.out.f 1
    go_wp2_with fail
    refine bodyPost_ret (v := .agg #[.slice (some ⟨ga, 0, none⟩) L.length c1, .slice a2 M.length c2]) (by simp [results, Tryz.results46, go_sem, hr0, hr1, hnp]) rfl ?_
    refine ⟨_, _, L, M, rfl, by omega, by omega, ?_, ?_, ?_⟩
    · exact (HV.out.put HR.out (by decide) 0 _).put (HR.out.put 0 _) (by decide) 1 _
    · exact row_put (row_put HO2.out.row HR.out (by decide) 0 _) (HR.out.put 0 _) (by decide) 1 _
    · exact (HD.out.setC (Nat.le_refl _) hgs 0 _).setC (Nat.le_refl _) hgs 1 _
end Go.Proofs.YtgjebjoaemeeoaaGreatDoor.kit
namespace Go.Proofs.YtgjebjoaemeeoaaGreatDoor.kit
open Go.ChangeShapes Go.WideShapes Go.ChangeAt Go.RowKit
set_option linter.unusedVariables false

/-- the slice value sv reads as the list l, below block B -/
def SrcE (B : Nat) (w : World) (sv : Value) (l : List Ent) : Prop :=
  (sv = .slice none 0 0 ∧ l = []) ∨ ∃ g o c, sv = .slice (some ⟨g, o, none⟩) l.length c ∧ g < B ∧ ∀ j, j < l.length → EntAt w g (o + j * 7) (gE l j)
theorem SrcE.below {B B' : Nat} {w w' : World} {sv : Value} {l : List Ent} (h : SrcE B w sv l) (hb : Below B' w w') (hB : B ≤ B') : SrcE B w' sv l := by
  rcases h with h | ⟨g, o, c, h1, h2, h3⟩
  · exact .inl h
  · exact .inr ⟨g, o, c, h1, h2, fun j hj => (h3 j hj).below hb (Nat.lt_of_lt_of_le h2 hB)⟩
theorem SrcE.own {b : Nat} {w : World} {v : Value} {l : List Ent} (h : OwnE b w v l) : SrcE w.heap.size w v l := by
  rcases h.2 with ⟨rfl, h0⟩ | ⟨g, c, cur, rfl, hg, hh, hn, hm, hr⟩
  · exact .inl ⟨rfl, List.eq_nil_of_length_eq_zero h0⟩
  · exact .inr ⟨g, 0, c, rfl, (Array.getElem?_eq_some_iff.1 hh).1, fun j hj => by rw [Nat.zero_add]; exact h.at j hj⟩
theorem SrcE.lit (w : World) (e : Int) (c : Int) (s : Int) (k : Int) (o : Int) (d : Int) (v : Int) : SrcE (w.heap.size + 1) (w.alloc (.cells #[.int .i64 e, .int .i64 c, .int .i64 s, .int .i64 k, .int .i64 o, .int .i64 d, .int .i64 v] 75)) (.slice (some ⟨w.heap.size, 0, none⟩) 1 1) [⟨e, c, s, k, o, d, v⟩] := by
  refine .inr ⟨w.heap.size, 0, 1, rfl, by omega, fun j hj => ?_⟩
  obtain rfl : j = 0 := by simpa using hj
  exact entAt_of (fun k hk => by rw [World.cell?_alloc_at _ _ _ _ rfl]; match k, hk with | 0, _ => rfl | 1, _ => rfl | 2, _ => rfl | 3, _ => rfl | 4, _ => rfl | 5, _ => rfl | 6, _ => rfl)
theorem SrcE.cell {w : World} {g o : Nat} {l : List Ent} (h : ∀ j, j < l.length → EntAt w g (o + j * 7) (gE l j)) (j : Nat) (u : Value) (hu : (cellsE l)[j]? = some u) : w.cell? ((⟨g, o, none⟩ : Addr).add j) = some u := by
  have hj : j < l.length * 7 := by have := (List.getElem?_eq_some_iff.1 hu).1; rwa [cellsE_len] at this
  have e : j = j / 7 * 7 + j % 7 := by omega
  have h1 := cellsE_at l (j / 7) (by omega) (j % 7) (by omega)
  rw [← e, hu] at h1
  have h2 := h (j / 7) (by omega)
  rw [add_mk]
  have e2 : o + j = o + j / 7 * 7 + j % 7 := by omega
  rw [e2]
  have h4 : j % 7 < 7 := by omega
  generalize j % 7 = k at h1 h4 ⊢
  match k, h4 with
  | 0, _ => exact h2.c0.trans h1.symm
  | 1, _ => exact h2.c1.trans h1.symm
  | 2, _ => exact h2.c2.trans h1.symm
  | 3, _ => exact h2.c3.trans h1.symm
  | 4, _ => exact h2.c4.trans h1.symm
  | 5, _ => exact h2.c5.trans h1.symm
  | 6, _ => exact h2.c6.trans h1.symm
theorem cellsE_one (l : List Ent) : ∀ u ∈ cellsE l, u.oneCell' = true := by
  intro u hu
  obtain ⟨x, _, hx⟩ := List.mem_flatMap.1 hu
  simp only [entC, List.mem_cons, List.not_mem_nil, or_false] at hx
  rcases hx with rfl | rfl | rfl | rfl | rfl | rfl | rfl <;> rfl
/-- append onto a row of the call's own, the source nil, empty or not -/
theorem wp_appE {t : TypeId} (ht : Tryz.prog.underlying t = some (.slice 75)) {w : World} {o : Oper} {a : Act} {K : Act → World → Prop} {Q : Exit → Act → World → Prop} (s x : Operand)
    (ho : o.op = .call { callee := .builtin .append, args := #[s, x], argTypes := #[t, t] })
    (base : Nat) (v : Value) (l0 : List Ent) (hs : a.eval s = v) (hown : OwnE base w v l0) (B : Nat) (sv : Value) (l : List Ent) (hx : a.eval x = sv) (hsrc : SrcE B w sv l)
    (hlen : l0.length + l.length ≤ 100000000000) (hbase : base ≤ w.heap.size)
    (h : ∀ v' w', OwnE base w' v' (l0 ++ l) → Below base w w' → w.grownBy w' v.ownBlock → K (a.put o.dst v') w') : o.wp Tryz.prog a w K Q := by
  obtain ⟨i0, hi, hz0, hz1, hz2⟩ := info_parts infoE
  rcases hsrc with ⟨rfl, rfl⟩ | ⟨g, of, c, rfl, _, hc⟩
  · have hrun := run_append_owned_none (P := Tryz.prog) (w := w) base t o.type 75 i0 7 ht hi v l0.length _ hown.row
    unfold Oper.wp execOp
    simp only [ho, resolve, invoke, builtin, Sem.run_bind, Sem.run_pure, Result.andThen_ok, List.map_toArray, List.map_cons, List.map_nil, hs, hx, hrun]
    exact h v w (by rw [List.append_nil]; exact hown) (Below.refl _ _) (World.grownBy.refl _ _)
  · refine wp_append_own w s x t ho base 75 i0 _ 7 56 ht hi hz0 hz1 hz2 rfl (by omega) v l0.length _ hs hown.row ⟨g, of, none⟩ l.length c (cellsE l) hx (by rw [cellsE_len]) ?_ (cellsE_one l) (by unfold maxLen; omega) (by omega) hbase ?_
    · exact fun j u hu => SrcE.cell hc j u hu
    · intro v' w' h1 h2 _
      refine h v' w' (OwnE.of h1 (by rw [cellsE_app])) ((Below.refl base w).grown h2 hbase (fun k hk => (hown.row.lt k hk).1)) h2
theorem wpList_appE {t : TypeId} (ht : Tryz.prog.underlying t = some (.slice 75)) {w : World} {ops : Array Oper} {rest : List Oper} {o : Oper} {a : Act} {Q : Exit → Act → World → Prop} (hgd : o.guard = none) (s x : Operand)
    (ho : o.op = .call { callee := .builtin .append, args := #[s, x], argTypes := #[t, t] })
    (base : Nat) (v : Value) (l0 : List Ent) (hs : a.eval s = v) (hown : OwnE base w v l0) (B : Nat) (sv : Value) (l : List Ent) (hx : a.eval x = sv) (hsrc : SrcE B w sv l)
    (hlen : l0.length + l.length ≤ 100000000000) (hbase : base ≤ w.heap.size)
    (h : ∀ v' w', OwnE base w' v' (l0 ++ l) → Below base w w' → w.grownBy w' v.ownBlock → wpList Tryz.prog ops Q rest (a.put o.dst v') w') : wpList Tryz.prog ops Q (o :: rest) a w :=
  wpList_plain hgd fun _ hK => wp_appE ht s x ho base v l0 hs hown B sv l hx hsrc hlen hbase fun v' w' h2 h3 h4 => hK _ _ (h v' w' h2 h3 h4)
theorem step_appE {t : TypeId} (ht : Tryz.prog.underlying t = some (.slice 75)) {w : World} {ops : Array Oper} {o : Oper} {a : Act} {K : Act → World → Prop} {Q : Exit → Act → World → Prop} {E : Prop} (hgd : o.guard = none) (s x : Operand)
    (ho : o.op = .call { callee := .builtin .append, args := #[s, x], argTypes := #[t, t] })
    (base : Nat) (v : Value) (l0 : List Ent) (hs : a.eval s = v) (hown : OwnE base w v l0) (B : Nat) (sv : Value) (l : List Ent) (hx : a.eval x = sv) (hsrc : SrcE B w sv l)
    (hlen : l0.length + l.length ≤ 100000000000) (hbase : base ≤ w.heap.size)
    (h : ∀ v' w', OwnE base w' v' (l0 ++ l) → Below base w w' → w.grownBy w' v.ownBlock → K (a.put o.dst v') w') :
    if Region.wanted o (yielded ops a.tmps) = true then Oper.wp Tryz.prog o a w K Q else E := by
  rw [if_pos (by simp [Region.wanted, hgd])]
  exact wp_appE ht s x ho base v l0 hs hown B sv l hx hsrc hlen hbase h
/-- append onto a slice that has no room: a new row -/
theorem step_growE {t : TypeId} (ht : Tryz.prog.underlying t = some (.slice 75)) {w : World} {ops : Array Oper} {o : Oper} {a : Act} {K : Act → World → Prop} {Q : Exit → Act → World → Prop} {E : Prop} (hgd : o.guard = none) (s x : Operand)
    (ho : o.op = .call { callee := .builtin .append, args := #[s, x], argTypes := #[t, t] })
    (ao : Option Addr) (l0 : List Ent) (hs : a.eval s = .slice ao l0.length l0.length) (hat : AtE w ao l0) (hnone : ao = none → l0 = []) (B : Nat) (sv : Value) (y : Ent) (hx : a.eval x = sv) (hsrc : SrcE B w sv [y])
    (hlen : l0.length ≤ 10000000000)
    (h : ∀ v' w', OwnE w.heap.size w' v' (l0 ++ [y]) → Below w.heap.size w w' → K (a.put o.dst v') w') :
    if Region.wanted o (yielded ops a.tmps) = true then Oper.wp Tryz.prog o a w K Q else E := by
  obtain ⟨i0, hi, hz0, hz1, hz2⟩ := info_parts infoE
  rcases hsrc with ⟨_, h0⟩ | ⟨g, of, c, rfl, _, hc⟩
  · cases h0
  · refine step_append_grows hgd s x t ho 75 i0 _ 7 56 ht hi hz0 hz1 hz2 rfl (by omega) ao l0.length l0.length (cellsE l0) hs (fun h => by have := hnone h; subst this; exact ⟨rfl, rfl⟩) (by rw [cellsE_len]) ?_ ⟨g, of, none⟩ 1 c (cellsE [y]) hx (by rw [cellsE_len]; rfl) ?_ (cellsE_one _) (by omega) (by unfold maxLen; omega) (by omega) ?_
    · intro b hb j u hu
      by_cases h0 : 0 < l0.length
      · obtain ⟨g', o', hx', _, _⟩ := hat 0 h0
        have hall : ∀ j, j < l0.length → EntAt w g' (o' + j * 7) (gE l0 j) := fun j hj => by
          obtain ⟨g2, o2, e2, _, h2⟩ := hat j hj
          rw [hx'] at e2
          cases e2
          exact h2
        rw [hx'] at hb
        cases hb
        exact SrcE.cell hall j u hu
      · have : l0 = [] := List.eq_nil_of_length_eq_zero (by omega)
        subst this
        simp [cellsE] at hu
    · exact fun j u hu => SrcE.cell hc j u hu
    · intro v' w' h1 h2
      exact h v' w' (OwnE.of h1 (by rw [cellsE_app])) ⟨h2.os, h2.tape, h2.output, h2.size, fun k hk => h2.block k hk (by simp)⟩
end Go.Proofs.YtgjebjoaemeeoaaGreatDoor.kit
namespace Go.Proofs.YtgjebjoaemeeoaaGreatDoor.kit
open Go.ChangeShapes Go.WideShapes Go.ChangeAt Go.RowKit
set_option linter.unusedVariables false
set_option linter.unusedSimpArgs false

theorem OwnE.drew {g : Nat} {w w' : World} {base : Nat} {v : Value} {l : List Ent} (h : OwnE base w v l) (hd : Drew g w w') (hg : g < base) : OwnE base w' v l := own_drew h hd hg
def lenOf : Value → Nat
  | .slice _ n _ => n
  | _ => 0
set_option maxRecDepth 100000 in
set_option maxHeartbeats 8000000 in
theorem log_any (g : Nat) (w : World) (hc : Cur g w) :
    Calls Tryz.prog 72 #[.pointer (some ⟨g, 0, none⟩)] w fun e w' => ∃ (v : Value) (L : List Ent), e = .returned v ∧ L.length ≤ 6 ∧ OwnE w.heap.size w' v L ∧ Drew g w w' := by
  have hgs := hc.lt
  have hD0 := (Drew.refl hc).alloc (.cells #[] 75)
  have ho0 : OwnE w.heap.size (w.alloc (.cells #[] 75)) (.slice (some ⟨w.heap.size, 0, none⟩) 0 0) [] := World.ownsRow_lit w #[] 0 (Nat.le_refl _) (Nat.zero_le _) rfl
  have C1 := Lib.hid (below_small g 7 _ (by decide) (by decide) hD0.2)
  have CO := fun W (h : Cur g W) => Lib.hid (once_any g 3 W (by decide) (by decide) h)
  have HT := Lib.hid Tryz.underlying30
  go_enter Tryz.func72, Tryz.ntmps72
  go_wp2_with fail
  refine (C1.out).mono ?_
  rintro e w1 ⟨y, rfl, hy0, hy1, hd1⟩
  obtain ⟨n0, rfl⟩ := Int.eq_ofNat_of_zero_le hy0
  have hD1 := hD0.trans hd1
  have ho1 := ho0.drew hd1 hgs
  clear hD0 ho0 hd1 C1
  go_wp2_with fail
  go_loopw [3, 4, 5, 6] (fun u e n _ wr => ∃ (k : Nat) (l : List Ent) (x : Int), n = .int .i64 k ∧ e = .int .i64 x ∧ 1 ≤ x ∧ x + (k : Int) ≤ 8 ∧ l.length + k ≤ 6 ∧ OwnE w.heap.size wr u l ∧ Drew g w wr) (fun _ _ n _ _ => (intOf n).toNat)
  case atStart => exact ⟨n0, [], 1, rfl, rfl, by omega, by omega, by simp; omega, ho1, hD1⟩
  case round =>
    obtain ⟨k, l, x, rfl, rfl, hx1, hx2, hl, hown, hD⟩ := hrel
    by_cases hlt : 0 < k
    · have t1 : decide ((k : Int) > 0) = true := decide_eq_true (by omega)
      have hw1 : IntKind.i64.wrap ((k : Int) - 1) = (k : Int) - 1 := IntWalk.i64_in _ (by omega)
      have hw2 : IntKind.i64.wrap (x + 1) = x + 1 := IntWalk.i64_in _ (by omega)
      go_wp2_with fail
      refine ((CO _ hD.2).out).mono ?_
      rintro e w3 ⟨b, rfl, hd3⟩
      have ho3 := hown.drew hd3 hgs
      have hD3 := hD.trans hd3
      cases b
      · skip
        have C3 := Lib.hid (op_any g _ hD3.2)
        go_wp2_with fail
        refine (C3.out).mono ?_
        rintro e w4 ⟨c, s, k', o, d, v, rfl, hd4⟩
        unfold opV
        have hD4 := hD3.trans hd4
        have ho4 := ho3.drew hd4 hgs
        have hbA := (Below.refl w4.heap.size w4).alloc (Nat.le_refl _) (.cells #[.int .i64 c, .int .i64 s, .int .i64 k', .int .i64 o, .int .i64 d, .int .i64 v] 25)
        have hD5 := hD4.alloc (.cells #[.int .i64 c, .int .i64 s, .int .i64 k', .int .i64 o, .int .i64 d, .int .i64 v] 25)
        have ho5 := ho4.later hbA
        have hlit := SrcE.lit (w4.alloc (.cells #[.int .i64 c, .int .i64 s, .int .i64 k', .int .i64 o, .int .i64 d, .int .i64 v] 25)) x c s k' o d v
        simp only [World.size_alloc] at hlit
        go_wp2_with (at_builtin; refine wpList_appE HT.out rfl (.tmp 20) (.tmp 24) rfl w.heap.size _ l rfl (ho5.later ((Below.refl _ _).alloc (Nat.le_refl _) _)) _ _ [⟨x, c, s, k', o, d, v⟩] rfl hlit (by simp; omega) (by have := hD5.1.size; simp at this ⊢; omega) ?_; intro v' w6 ho6 hb6 hg6)
        go_roundw
        case rel => exact ⟨k - 1, l ++ [_], x, by congr 1; omega, rfl, by omega, by omega, by simp; omega, ho6, (hD5.alloc _).below hb6 hgs⟩
        case measure => simp [intOf]; omega
      · skip
        have C3 := Lib.hid (op_any g _ hD3.2)
        go_wp2_with fail
        refine (C3.out).mono ?_
        rintro e w4 ⟨c, s, k', o, d, v, rfl, hd4⟩
        unfold opV
        have hD4 := hD3.trans hd4
        have ho4 := ho3.drew hd4 hgs
        have hbA := (Below.refl w4.heap.size w4).alloc (Nat.le_refl _) (.cells #[.int .i64 c, .int .i64 s, .int .i64 k', .int .i64 o, .int .i64 d, .int .i64 v] 25)
        have hD5 := hD4.alloc (.cells #[.int .i64 c, .int .i64 s, .int .i64 k', .int .i64 o, .int .i64 d, .int .i64 v] 25)
        have ho5 := ho4.later hbA
        have hlit := SrcE.lit (w4.alloc (.cells #[.int .i64 c, .int .i64 s, .int .i64 k', .int .i64 o, .int .i64 d, .int .i64 v] 25)) (x + 1) c s k' o d v
        simp only [World.size_alloc] at hlit
        go_wp2_with (at_builtin; refine wpList_appE HT.out rfl (.tmp 20) (.tmp 24) rfl w.heap.size _ l rfl (ho5.later ((Below.refl _ _).alloc (Nat.le_refl _) _)) _ _ [⟨x + 1, c, s, k', o, d, v⟩] rfl hlit (by simp; omega) (by have := hD5.1.size; simp at this ⊢; omega) ?_; intro v' w6 ho6 hb6 hg6)
        go_roundw
        case rel => exact ⟨k - 1, l ++ [_], x + 1, by congr 1; omega, rfl, by omega, by omega, by simp; omega, ho6, (hD5.alloc _).below hb6 hgs⟩
        case measure => simp [intOf]; omega
    · have t1 : decide ((k : Int) > 0) = false := decide_eq_false (by omega)
      go_wp2_with fail
      go_ret
      exact ⟨_, l, rfl, by omega, hown, hD⟩
set_option maxRecDepth 100000 in
set_option maxHeartbeats 8000000 in
theorem any5_any (g : Nat) (w : World) (hc : Cur g w) :
    Calls Tryz.prog 37 #[.pointer (some ⟨g, 0, none⟩)] w fun e w' => ∃ (v : Value) (L : List Ent), e = .returned v ∧ L.length ≤ 17 ∧ OwnE w.heap.size w' v L ∧ Drew g w w' := by
  have hgs := hc.lt
  have C1 := Lib.hid (log_any g w hc)
  have HT := Lib.hid Tryz.underlying30
  go_enter Tryz.func37, Tryz.ntmps37
  go_wp2_with fail
  refine (C1.out).mono ?_
  rintro e w1 ⟨u, L, rfl, hL, ho1, hd1⟩
  obtain ⟨yu, qu, rfl⟩ := ho1.shape
  have CB := Lib.hid (below_small g 14 w1 (by decide) (by decide) hd1.2)
  clear C1
  go_wp2_with fail
  refine (CB.out).mono ?_
  rintro e w2 ⟨y, rfl, hy0, hy1, hd2⟩
  have hD2 := hd1.trans hd2
  have ho2 := ho1.drew hd2 hgs
  clear CB ho1 hd1 hd2
  have hy : y = 0 ∨ y = 1 ∨ 2 ≤ y := by omega
  rcases hy with rfl | rfl | hy
  · clear hy0 hy1
    have j0 := pick_lits hD2.2 [0, 1, 20, 21] (by decide) (by decide) (by unfold fits; decide)
    simp only [List.map_cons, List.map_nil, List.length_cons, List.length_nil, Nat.reduceAdd] at j0
    have J := Lib.hid j0
    clear j0
    go_wp2_with fail
    refine (J.out).mono ?_
    rintro e w3 ⟨x, rfl, hf, hd3⟩
    have hD3 := hD2.trans hd3
    have ho3 := ho2.drew hd3 hgs
    have CA := Lib.hid (anyOp_any g w3 hD3.2)
    clear J ho2 hD2 hd3
    go_wp2_with fail
    refine (CA.out).mono ?_
    rintro e w4 ⟨c, s, k', o, d, v, rfl, hd4⟩
    unfold opV
    have hD4 := hD3.trans hd4
    have ho4 := ho3.drew hd4 hgs
    have hzz := hD4.1.size
    have hlit := SrcE.lit w4 x c s k' o d v
    go_wp2_with (at_builtin; refine wpList_appE HT.out rfl (.tmp 11) (.tmp 18) rfl w.heap.size _ L rfl (ho4.later ((Below.refl _ _).alloc (Nat.le_refl _) _)) _ _ [⟨x, c, s, k', o, d, v⟩] rfl hlit (by simp; omega) (by simp; omega) ?_; intro v' w6 ho6 hb6 hg6)
    go_ret
    exact ⟨_, L ++ [_], rfl, by simp; omega, ho6, (hD4.alloc _).below hb6 hgs⟩
  · clear hy0 hy1
    go_wp2_with fail
    go_loopw [3, 4] (fun u _ wr => ∃ (l : List Ent) (a : Option Addr) (q : Nat), u = .slice a l.length q ∧ l.length ≤ 17 ∧ OwnE w.heap.size wr (.slice a l.length q) l ∧ Drew g w wr) (fun u _ _ => 17 - lenOf u)
    case atStart => exact ⟨L, _, _, rfl, by omega, ho2, hD2⟩
    case round =>
      obtain ⟨l, a, q, rfl, hl, ho3, hD3⟩ := hrel
      by_cases hlt : l.length < 17
      · have t1 : decide ((l.length : Int) < 17) = true := decide_eq_true (by omega)
        have CA := Lib.hid (op_any g _ hD3.2)
        go_wp2_with fail
        refine (CA.out).mono ?_
        rintro e w4 ⟨c, s, k', o, d, v, rfl, hd4⟩
        unfold opV
        have hD4 := hD3.trans hd4
        have ho4 := ho3.drew hd4 hgs
        have hzz := hD4.1.size
        have hbA := (Below.refl w4.heap.size w4).alloc (Nat.le_refl _) (.cells #[.int .i64 c, .int .i64 s, .int .i64 k', .int .i64 o, .int .i64 d, .int .i64 v] 25)
        have hD5 := hD4.alloc (.cells #[.int .i64 c, .int .i64 s, .int .i64 k', .int .i64 o, .int .i64 d, .int .i64 v] 25)
        have ho5 := ho4.later hbA
        have hlit := SrcE.lit (w4.alloc (.cells #[.int .i64 c, .int .i64 s, .int .i64 k', .int .i64 o, .int .i64 d, .int .i64 v] 25)) 20 c s k' o d v
        simp only [World.size_alloc] at hlit
        go_wp2_with (at_builtin; refine wpList_appE HT.out rfl (.tmp 27) (.tmp 30) rfl w.heap.size _ l rfl (ho5.later ((Below.refl _ _).alloc (Nat.le_refl _) _)) _ _ [⟨20, c, s, k', o, d, v⟩] rfl hlit (by simp; omega) (by simp; omega) ?_; intro v' w6 ho6 hb6 hg6; obtain ⟨a6, q6, rfl⟩ := ho6.shape)
        go_roundw
        case rel => exact ⟨l ++ [⟨20, c, s, k', o, d, v⟩], a6, q6, by rw [List.length_append]; rfl, by simp; omega, ho6, (hD5.alloc _).below hb6 hgs⟩
        case measure => simp [lenOf]; omega
      · have t1 : decide ((l.length : Int) < 17) = false := decide_eq_false (by omega)
        go_wp2_with fail
        go_ret
        exact ⟨_, l, rfl, by omega, ho3, hD3⟩
  · have t0 : (y == 0) = false := by rw [beq_eq_false_iff_ne]; omega
    have t1 : (y == 1) = false := by rw [beq_eq_false_iff_ne]; omega
    go_wp2_with fail
    go_ret
    exact ⟨_, L, rfl, by omega, ho2, hD2⟩
end Go.Proofs.YtgjebjoaemeeoaaGreatDoor.kit
