/-
  The specification's draws: the cursor over the code, a byte, a number below a bound: what they may return, and that they write into the cursor's own block alone.
-/
import Derived.Test.YtgjebjoaemeeoaaC1Fixed
import Derived.Maps.AppendAt
namespace Go.Proofs.Ytgjebjoaemeeoaa.kit
open Go.ChangeShapes Go.WideShapes Go.ChangeAt Go.RowKit
set_option linter.unusedVariables false

theorem and255 (y : Int) : 0 ≤ bits .and .i64 y 255 ∧ bits .and .i64 y 255 ≤ 255 := by
  have h : (BitVec.ofInt 64 y &&& BitVec.ofInt 64 255).toNat ≤ 255 := by
    rw [BitVec.toNat_and]
    exact Nat.and_le_right
  show 0 ≤ IntKind.i64.wrap ((BitVec.ofInt 64 y &&& BitVec.ofInt 64 255).toNat : Int) ∧ IntKind.i64.wrap ((BitVec.ofInt 64 y &&& BitVec.ofInt 64 255).toNat : Int) ≤ 255
  rw [IntKind.wrap_i64]
  omega
theorem block_add (a : Addr) (n : Nat) : (a.add n).block = a.block := by unfold Addr.add; split <;> rfl
/-- a store into one cell of a block that is known whole -/
theorem blk_set {w : World} {g : Nat} {cs : Array Value} {t : TypeId} (hb : w.heap[g]? = some (.cells cs t (0, 0))) (j : Nat) (u : Value) : (w.setCell ⟨g, j, none⟩ u).heap[g]? = some (.cells (cs.setIfInBounds j u) t (0, 0)) := by
  simp [World.setCell, Array.getElem?_modify, hb]
theorem grown_set {a w : World} {g : Nat} (h : a.grownBy w (some g)) (j : Nat) (u : Value) : a.grownBy (w.setCell ⟨g, j, none⟩ u) (some g) :=
  ⟨h.os, h.tape, h.output, by simpa [World.setCell] using h.size, fun k hk hne => (Below.heap_setCell w ⟨g, j, none⟩ u k (fun e => hne (by rw [e]))).trans (h.block k hk hne)⟩
theorem grown_drewN {a w : World} {row : Option Nat} (h : a.grownBy w row) (n : Nat) : a.grownBy (w.drewN n) row := ⟨h.os, h.tape, h.output, h.size, h.block⟩
theorem grown_refl (w : World) (row : Option Nat) : w.grownBy w row := ⟨rfl, rfl, rfl, Nat.le_refl _, fun _ _ _ => rfl⟩
theorem grown_tr {a b c : World} {row : Option Nat} (h : a.grownBy b row) (k : b.grownBy c row) : a.grownBy c row :=
  ⟨k.os.trans h.os, k.tape.trans h.tape, k.output.trans h.output, Nat.le_trans h.size k.size, fun i hi hne => (k.block i (Nat.lt_of_lt_of_le hi h.size) hne).trans (h.block i hi hne)⟩
theorem grown_below {a w w' : World} {B g : Nat} (h : Below B a w) (k : w.grownBy w' (some g)) (hB : B ≤ w.heap.size) (hg : B ≤ g) : Below B a w' :=
  h.grown k hB (fun j hj => by cases hj; exact hg)
theorem IsRow.grown {w w' : World} {g : Nat} {a : Option Addr} {len cap : Nat} {zs : List Int} (h : IsRow .u8 w a len cap zs) (hg : w.grownBy w' (some g)) (hlow : ∀ x, a = some x → 0 < zs.length → x.block < g) (hgs : g < w.heap.size) : IsRow .u8 w' a len cap zs := by
  rcases h with h | ⟨x, hx, h1, h2, h3, h4, h5⟩
  · exact .inl h
  · refine .inr ⟨x, hx, h1, h2, h3, fun i hi => ?_, h5⟩
    have hb : (x.add i).block < g := by rw [block_add]; exact hlow x hx (by omega)
    rw [World.cell?_of_block (hg.block (x.add i).block (by omega) (fun e => by have := Option.some.inj e; omega))]
    exact h4 i hi
/-- block g is a cursor over bytes that came in -/
def Cur (g : Nat) (w : World) : Prop := ∃ (A : Option Addr) (len cap : Nat) (zs : List Int) (i : Nat) (h : Int), i ≤ len ∧
  w.heap[g]? = some (.cells #[.slice A len cap, .int .i64 i, .int .i64 h] 78 (0, 0)) ∧ IsRow .u8 w A len cap zs ∧ (∀ x, A = some x → 0 < zs.length → x.block < g)
theorem Cur.lt {g : Nat} {w : World} (h : Cur g w) : g < w.heap.size := by
  obtain ⟨A, len, cap, zs, i, h, _, hb, _⟩ := h
  exact (Array.getElem?_eq_some_iff.1 hb).1
/-- what a draw leaves: it has written into the cursor's block alone -/
def Drew (g : Nat) (w w' : World) : Prop := w.grownBy w' (some g) ∧ Cur g w'
set_option maxHeartbeats 1000000 in
theorem byte_more (g : Nat) (x : Addr) (len cap i : Nat) (h z : Int) (w : World) (hi : i < len) (hlen : len ≤ 9223372036854775807)
    (hb : w.heap[g]? = some (.cells #[.slice (some x) len cap, .int .i64 i, .int .i64 h] 78 (0, 0))) (hz : w.cell? (x.add i) = some (.int .u8 z)) (hz0 : 0 ≤ z) (hz1 : z ≤ 255) (hx : x.block < g) :
    Calls Try.prog 63 #[.pointer (some ⟨g, 0, none⟩)] w fun e w' => ∃ y : Int, e = .returned (.int .i64 y) ∧ 0 ≤ y ∧ y ≤ 255 ∧ w.grownBy w' (some g) ∧ ∃ h2 : Int, w'.heap[g]? = some (.cells #[.slice (some x) len cap, .int .i64 ((i + 1 : Nat) : Int), .int .i64 h2] 78 (0, 0)) := by
  have c0 : w.cell? ⟨g, 0, none⟩ = some (.slice (some x) len cap) := by rw [cell_of_row w g 0 _ _ _ hb]; rfl
  have c1 : w.cell? ⟨g, 1, none⟩ = some (.int .i64 i) := by rw [cell_of_row w g 1 _ _ _ hb]; rfl
  have c2 : w.cell? ⟨g, 2, none⟩ = some (.int .i64 h) := by rw [cell_of_row w g 2 _ _ _ hb]; rfl
  have f1 : w.frozen? ⟨g, 1, none⟩ = false := by simp [World.frozen?, hb]
  have f2 : w.frozen? ⟨g, 2, none⟩ = false := by simp [World.frozen?, hb]
  go_enter Try.func63, Try.ntmps63
  go_wp2_with fail
  generalize wrap64 (wrap64 (h * 6364136223846793005) + 1442695040888963407) = h2
  have hb2 := blk_set hb 2 (.int .i64 h2)
  have hg2 := grown_set (grown_refl w (some g)) 2 (.int .i64 h2)
  have hz2 : (w.setCell ⟨g, 2, none⟩ (.int .i64 h2)).cell? (x.add i) = some (.int .u8 z) := (World.cell?_of_block (Below.heap_setCell w ⟨g, 2, none⟩ _ (x.add i).block (by rw [block_add]; show x.block ≠ g; omega))).trans hz
  clear c0 c1 c2 f1 f2 hb
  generalize w.setCell ⟨g, 2, none⟩ (.int .i64 h2) = W at *
  have c0 : W.cell? ⟨g, 0, none⟩ = some (.slice (some x) len cap) := by rw [cell_of_row W g 0 _ _ _ hb2]; rfl
  have c1 : W.cell? ⟨g, 1, none⟩ = some (.int .i64 i) := by rw [cell_of_row W g 1 _ _ _ hb2]; rfl
  have c2 : W.cell? ⟨g, 2, none⟩ = some (.int .i64 h2) := by rw [cell_of_row W g 2 _ _ _ hb2]; rfl
  have HB2 := Lib.hid hb2
  have HZ2 := Lib.hid hz2
  clear hb2 hz2 hz
  go_quiet (fail)
  have hx0 := and255 (bits BinOp.xor IntKind.i64 (h2 / 8589934592) (h2 / 35184372088832))
  generalize bits BinOp.and IntKind.i64 (bits BinOp.xor IntKind.i64 (h2 / 8589934592) (h2 / 35184372088832)) 255 = x0 at *
  go_wp2_with fail
  have hi2 : (i : Int) < (len : Int) := by omega
  go_quiet (fail)
  go_wp2_with fail
  have hs1 : IntKind.i64.wrap z = z := IntWalk.i64_in _ (by omega)
  have hs2 : IntKind.i64.wrap (x0 + z) = x0 + z := IntWalk.i64_in _ (by omega)
  have hz2 := HZ2.out
  go_quiet (fail)
  clear hs1 hs2
  have hx1 := and255 (x0 + z)
  generalize bits BinOp.and IntKind.i64 (x0 + z) 255 = x1 at *
  have f1 : W.frozen? ⟨g, 1, none⟩ = false := by have := HB2.out; simp [World.frozen?, this]
  go_wp2_with fail
  go_ret
  refine ⟨x1, rfl, hx1.1, hx1.2, grown_drewN (grown_set hg2 1 _) _, h2, ?_⟩
  exact blk_set HB2.out 1 _
set_option maxHeartbeats 1000000 in
theorem byte_end (g : Nat) (A : Option Addr) (len cap i : Nat) (h : Int) (w : World) (hi : len ≤ i) (hlen : i ≤ 9223372036854775807)
    (hb : w.heap[g]? = some (.cells #[.slice A len cap, .int .i64 i, .int .i64 h] 78 (0, 0))) :
    Calls Try.prog 63 #[.pointer (some ⟨g, 0, none⟩)] w fun e w' => ∃ y : Int, e = .returned (.int .i64 y) ∧ 0 ≤ y ∧ y ≤ 255 ∧ w.grownBy w' (some g) ∧ ∃ h2 : Int, w'.heap[g]? = some (.cells #[.slice A len cap, .int .i64 i, .int .i64 h2] 78 (0, 0)) := by
  have c0 : w.cell? ⟨g, 0, none⟩ = some (.slice A len cap) := by rw [cell_of_row w g 0 _ _ _ hb]; rfl
  have c1 : w.cell? ⟨g, 1, none⟩ = some (.int .i64 i) := by rw [cell_of_row w g 1 _ _ _ hb]; rfl
  have c2 : w.cell? ⟨g, 2, none⟩ = some (.int .i64 h) := by rw [cell_of_row w g 2 _ _ _ hb]; rfl
  have f2 : w.frozen? ⟨g, 2, none⟩ = false := by simp [World.frozen?, hb]
  go_enter Try.func63, Try.ntmps63
  go_wp2_with fail
  generalize wrap64 (wrap64 (h * 6364136223846793005) + 1442695040888963407) = h2
  have hb2 := blk_set hb 2 (.int .i64 h2)
  have hg2 := grown_set (grown_refl w (some g)) 2 (.int .i64 h2)
  clear c0 c1 c2 f2 hb
  generalize w.setCell ⟨g, 2, none⟩ (.int .i64 h2) = W at *
  have c0 : W.cell? ⟨g, 0, none⟩ = some (.slice A len cap) := by rw [cell_of_row W g 0 _ _ _ hb2]; rfl
  have c1 : W.cell? ⟨g, 1, none⟩ = some (.int .i64 i) := by rw [cell_of_row W g 1 _ _ _ hb2]; rfl
  have c2 : W.cell? ⟨g, 2, none⟩ = some (.int .i64 h2) := by rw [cell_of_row W g 2 _ _ _ hb2]; rfl
  have HB2 := Lib.hid hb2
  clear hb2
  go_quiet (fail)
  have hx0 := and255 (bits BinOp.xor IntKind.i64 (h2 / 8589934592) (h2 / 35184372088832))
  generalize bits BinOp.and IntKind.i64 (bits BinOp.xor IntKind.i64 (h2 / 8589934592) (h2 / 35184372088832)) 255 = x0 at *
  go_wp2_with fail
  have hi2 : ¬ i < len := by omega
  go_quiet (fail)
  go_wp2_with fail
  go_ret
  exact ⟨x0, rfl, hx0.1, hx0.2, grown_drewN (grown_drewN hg2 _) _, h2, HB2.out⟩
theorem byte_any (g : Nat) (w : World) (hc : Cur g w) : Calls Try.prog 63 #[.pointer (some ⟨g, 0, none⟩)] w fun e w' => ∃ y : Int, e = .returned (.int .i64 y) ∧ 0 ≤ y ∧ y ≤ 255 ∧ Drew g w w' := by
  have hgs := hc.lt
  obtain ⟨A, len, cap, zs, i, h, hi, hb, hrow, hlow⟩ := hc
  by_cases hlt : i < len
  · obtain ⟨x, rfl, h1, h2, h3, h4, h5⟩ : ∃ x, A = some x ∧ len ≤ cap ∧ cap ≤ maxLen ∧ zs.length = cap ∧ (∀ i, i < zs.length → w.cell? (x.add i) = some (.int .u8 (zs.getD i 0))) ∧ ∀ n ∈ zs, (Lit.int .u8 n).wf = true := by
      rcases hrow with ⟨_, hl, _⟩ | ⟨x, hx, r⟩
      · omega
      · exact ⟨x, hx, r⟩
    have hz := h5 (zs.getD i 0) (by
      rw [List.getD_eq_getElem?_getD, List.getElem?_eq_getElem (show i < zs.length by omega)]
      exact List.getElem_mem _)
    simp [Lit.wf, IntKind.min, IntKind.max, IntKind.signed, IntKind.bits] at hz
    have hz' : 0 ≤ zs.getD i 0 ∧ zs.getD i 0 ≤ 255 := by rw [List.getD_eq_getElem?_getD]; exact hz
    refine (byte_more g x len cap i h _ w hlt (by unfold maxLen at h2; omega) hb (h4 i (by omega)) hz'.1 hz'.2 (hlow x rfl (by omega))).mono ?_
    rintro e w' ⟨y, he, hy0, hy1, hg, hh, hb'⟩
    exact ⟨y, he, hy0, hy1, hg, some x, len, cap, zs, i + 1, hh, by omega, hb', hrow.grown hg hlow hgs, hlow⟩
  · have hl : len ≤ 9223372036854775807 := by
      rcases hrow with ⟨_, hl, _⟩ | ⟨x, hx, h1, h2, _⟩
      · omega
      · unfold maxLen at h2; omega
    refine (byte_end g A len cap i h w (by omega) (by omega) hb).mono ?_
    rintro e w' ⟨y, he, hy0, hy1, hg, hh, hb'⟩
    exact ⟨y, he, hy0, hy1, hg, A, len, cap, zs, i, hh, hi, hb', hrow.grown hg hlow hgs, hlow⟩
theorem Drew.trans {g : Nat} {a b c : World} (h : Drew g a b) (k : Drew g b c) : Drew g a c := ⟨grown_tr h.1 k.1, k.2⟩
theorem below_none (g : Nat) (n : Int) (w : World) (hn : n ≤ 0) (hc : Cur g w) : Calls Try.prog 48 #[.pointer (some ⟨g, 0, none⟩), .int .i64 n] w fun e w' => e = .returned (.int .i64 0) ∧ w = w' := by
  go_enter Try.func48, Try.ntmps48
  go_wp2_with fail
  go_ret
  exact ⟨rfl, rfl⟩
theorem below_small (g : Nat) (n : Int) (w : World) (hn : 1 ≤ n) (hn2 : n ≤ 256) (hc : Cur g w) : Calls Try.prog 48 #[.pointer (some ⟨g, 0, none⟩), .int .i64 n] w fun e w' => ∃ y : Int, e = .returned (.int .i64 y) ∧ 0 ≤ y ∧ y < n ∧ Drew g w w' := by
  have C1 := Lib.hid (byte_any g w hc)
  have hn0 : ¬ n = 0 := by omega
  go_enter Try.func48, Try.ntmps48
  go_wp2_with (go_at_call 63; refine (C1.out).mono ?_; rintro e w' ⟨y, rfl, hy0, hy1, hd⟩)
  go_ret
  refine ⟨_, rfl, ?_, ?_, hd⟩
  · exact Int.emod_nonneg _ (by omega)
  · exact Int.emod_lt_of_pos _ (by omega)
set_option maxHeartbeats 1000000 in
theorem below_large (g : Nat) (n : Int) (w : World) (hn : 256 < n) (hn2 : n ≤ 9223372036854775807) (hc : Cur g w) : Calls Try.prog 48 #[.pointer (some ⟨g, 0, none⟩), .int .i64 n] w fun e w' => ∃ y : Int, e = .returned (.int .i64 y) ∧ 0 ≤ y ∧ y < n ∧ Drew g w w' := by
  have C1 := fun W (h : Cur g W) => Lib.hid (byte_any g W h)
  have hn0 : ¬ n = 0 := by omega
  go_enter Try.func48, Try.ntmps48
  go_wp2_with fail
  refine ((C1 _ hc).out).mono ?_
  rintro e w1 ⟨y1, rfl, hy10, hy11, hd1⟩
  go_wp2_with fail
  refine ((C1 _ hd1.2).out).mono ?_
  rintro e w2 ⟨y2, rfl, hy20, hy21, hd2⟩
  go_wp2_with fail
  refine ((C1 _ hd2.2).out).mono ?_
  rintro e w3 ⟨y3, rfl, hy30, hy31, hd3⟩
  go_wp2_with fail
  refine ((C1 _ hd3.2).out).mono ?_
  rintro e w4 ⟨y4, rfl, hy40, hy41, hd4⟩
  go_wp2_with fail
  go_ret
  refine ⟨_, rfl, ?_, ?_, ((hd1.trans hd2).trans hd3).trans hd4⟩
  · exact Int.emod_nonneg _ (by omega)
  · exact Int.emod_lt_of_pos _ (by omega)
theorem below_pos (g : Nat) (n : Int) (w : World) (hn : 1 ≤ n) (hn2 : n ≤ 9223372036854775807) (hc : Cur g w) : Calls Try.prog 48 #[.pointer (some ⟨g, 0, none⟩), .int .i64 n] w fun e w' => ∃ y : Int, e = .returned (.int .i64 y) ∧ 0 ≤ y ∧ y < n ∧ Drew g w w' := by
  by_cases h : n ≤ 256
  · exact below_small g n w hn h hc
  · exact below_large g n w (by omega) hn2 hc
end Go.Proofs.Ytgjebjoaemeeoaa.kit
