/-
  Small words that the seat's proofs share: a law's last step behind a world of which 'Below' alone is known; bytes read out of a row of the call's own; bit arithmetic in plain numbers.
-/
import Derived.Test.YtgjebjoaemeeoaaRows
import Derived.WalkKit
import Derived.ProofKit
import Derived.OpenShut
import Derived.ShutString
import Derived.WalkLawsBesides
import Derived.WalkSpells
import Derived.Outline
import Derived.Below
import Derived.Lib.Hide
import Derived.Deep.OwnRows
import Derived.Deep.QuietTactic
import Derived.BigQuiet
import Derived.ChangeSame
import Derived.Deep.AppendLies
import Derived.Deep.RegionLaw
namespace Go.Proofs.Ytgjebjoaemeeoaa.kit
open Go.ChangeShapes Go.WideShapes Go.ChangeAt Go.RowKit

/-- a string out of a list of bytes -/
abbrev str (l : List UInt8) : Value := .string ⟨l.toArray⟩

theorem str_app (a b : List UInt8) : Value.string ((⟨a.toArray⟩ : ByteArray) ++ (⟨b.toArray⟩ : ByteArray)) = str (a ++ b) := by
  rw [ByteArray.mk_append_mk]
theorem laidOut : laidOutB Try.prog = true := by kernel_rfl
theorem own : ownKnob Try.prog.godebug = none := by kernel_rfl

/-- what a law's walk is told of a []byte that came in: nil; or a row of 'cap' bytes, of which the first 'len' are its elements -/
def IsRow (k : IntKind) (w : World) (a : Option Addr) (len cap : Nat) (zs : List Int) : Prop :=
  (a = none ∧ len = 0 ∧ cap = 0 ∧ zs = []) ∨
  ∃ x, a = some x ∧ len ≤ cap ∧ cap ≤ maxLen ∧ zs.length = cap ∧ (∀ i, i < zs.length → w.cell? (x.add i) = some (.int k (zs.getD i 0))) ∧ ∀ n ∈ zs, (Lit.int k n).wf = true

theorem below_drewN {B : Nat} {a w : World} (h : Below B a w) (n : Nat) : Below B a (w.drewN n) := ⟨h.os, h.tape, h.output, h.size, h.block⟩

section
variable {P : Program}
/-- string([]byte{x}): the one-byte row that was made just before -/
theorem conv1 {src e dst : TypeId} (hs : P.underlying src = some (.slice e)) (he : P.underlying e = some (.int .u8)) (hd : P.underlying dst = some .string) (w : World) (x : Int) :
    (convert src dst (.slice (some ⟨w.heap.size, 0, none⟩) 1 1)).run P (w.alloc (.cells #[.int .u8 x] e)) = .ok (str [UInt8.ofNat x.toNat]) (w.alloc (.cells #[.int .u8 x] e)) := by
  have h := run_convert_bytes_arg (P := P) (w.alloc (.cells #[.int .u8 x] e)) src e hs he w.heap.size 0 1 1 [x] rfl (fun i hi => by
    obtain rfl : i = 0 := by omega
    simp [World.cell?_alloc_at]) dst hd
  rw [h]; rfl

/-- string(b), b the first 'len' places of a row of the call's own -/
theorem conv_row {src e dst : TypeId} (hs : P.underlying src = some (.slice e)) (he : P.underlying e = some (.int .u8)) (hd : P.underlying dst = some .string) {w : World} {b n len cap : Nat} {g : Nat → Int}
    (h : w.rowIs b e n (fun i => .int .u8 (g i))) (hl : len ≤ n) :
    (convert src dst (.slice (some ⟨b, 0, none⟩) len cap)).run P w = .ok (str ((List.range len).map fun i => UInt8.ofNat (g i).toNat)) w := by
  have h1 := run_convert_bytes_arg (P := P) w src e hs he b 0 len cap ((List.range len).map g) (by simp) (fun i hi => by
    have := h.cell (i := i) (by omega)
    simpa [List.getD, hi] using this) dst hd
  rw [h1]; simp [strOfNums, str, Function.comp_def]

/-- string(b), b a row of bytes that the call has gathered by append -/
theorem conv_own {src e dst : TypeId} (hs : P.underlying src = some (.slice e)) (he : P.underlying e = some (.int .u8)) (hd : P.underlying dst = some .string) {w : World} {base : Nat} {a : Option Addr} {cap : Nat} {l : List UInt8}
    (h : w.ownsRow base e 1 (.slice a l.length cap) l.length (l.map fun x => Value.int .u8 x.toNat)) :
    (convert src dst (.slice a l.length cap)).run P w = .ok (str l) w := by
  rcases h.2 with ⟨hn, h0⟩ | ⟨g, c, cur, hv, _⟩
  · obtain rfl := List.eq_nil_of_length_eq_zero h0
    injection hn with hn
    subst hn
    rw [run_convert_bytes_nil w src e hs he _ _ dst hd]; rfl
  · injection hv with hv _ _
    subst hv
    have h1 := run_convert_bytes_arg (P := P) w src e hs he g 0 l.length cap (l.map fun x => (x.toNat : Int)) (by simp) (fun i hi => by
      have := h.cellAt i (by omega)
      simpa [List.getD, hi] using this) dst hd
    rw [h1]; simp [strOfNums, str, Function.comp_def, UInt8.ofNat_toNat]

/-- append of ONE element, which was laid in a block of its own just before: the row is one longer; below 'base' nothing has turned -/
theorem wpList_push {w0 : World} {ops : Array Oper} {rest : List Oper} {o : Oper} {a : Act} {Q : Exit → Act → World → Prop} (hgd : o.guard = none) (s x : Operand) (t : TypeId)
    (ho : o.op = .call { callee := .builtin .append, args := #[s, x], argTypes := #[t, t] })
    (base : Nat) (e : TypeId) (z : Value) (size bytes : Nat) (ht : P.underlying t = some (.slice e)) (hinfo : (P.info? e).map (fun i => (i.zero, i.size, i.bytes)) = some (some z, size, bytes))
    (hzs : z.cells.size = size) (hsz : 0 < size)
    (v : Value) (n : Nat) (xs : List Value) (hs : a.eval s = v) (hown : w0.ownsRow base e size v n xs)
    (cs : Array Value) (c : Nat) (hx : a.eval x = .slice (some ⟨w0.heap.size, 0, none⟩) 1 c) (hcs : cs.size = size) (h1 : ∀ u ∈ cs.toList, u.oneCell' = true)
    (h63 : n + 1 ≤ maxLen) (hbytes : (n + 1) * bytes ≤ 140737488355328) (hbase : base ≤ w0.heap.size)
    (h : ∀ v' w', w'.ownsRow base e size v' (n + 1) (xs ++ cs.toList) → Below base w0 w' → w0.grownBy w' v.ownBlock → wpList P ops Q rest (a.put o.dst v') w') :
    wpList P ops Q (o :: rest) a (w0.alloc (.cells cs e)) := by
  obtain ⟨i0, hi, hz0, hz1, hz2⟩ := info_parts hinfo
  refine wpList_append_own _ hgd s x t ho base e i0 z size bytes ht hi hz0 hz1 hz2 hzs hsz v n xs hs (hown.alloc _) ⟨w0.heap.size, 0, none⟩ 1 c cs.toList hx (by simp [hcs])
    (fun j u hj => ?_) h1 h63 hbytes (by simp; omega) (fun v' w' hown' hg _ => h v' w' hown' ?_ ?_)
  · have hadd : (⟨w0.heap.size, 0, none⟩ : Addr).add j = ⟨w0.heap.size, j, none⟩ := by unfold Addr.add; split <;> simp_all
    rw [hadd, World.cell?_alloc_at _ _ _ _ rfl]
    simpa using hj
  · refine (((Below.refl base w0).alloc hbase _).grown hg (by simp; omega) (fun k hk => ?_))
    exact (hown.lt k hk).1
  · have hg0 := World.grownBy_alloc w0 (.cells cs e) v.ownBlock
    exact ⟨hg.os, hg.tape, hg.output, Nat.le_trans hg0.size hg.size, fun k hk hne => (hg.block k (by simp; omega) hne).trans (hg0.block k hk hne)⟩

/-- .. of one cell -/
theorem wpList_push1 {w0 : World} {ops : Array Oper} {rest : List Oper} {o : Oper} {a : Act} {Q : Exit → Act → World → Prop} (hgd : o.guard = none) (s x : Operand) (t : TypeId)
    (ho : o.op = .call { callee := .builtin .append, args := #[s, x], argTypes := #[t, t] })
    (base : Nat) (e : TypeId) (z : Value) (bytes : Nat) (ht : P.underlying t = some (.slice e)) (hinfo : (P.info? e).map (fun i => (i.zero, i.size, i.bytes)) = some (some z, 1, bytes))
    (hzs : z.cells.size = 1)
    (v : Value) (n : Nat) (xs : List Value) (hs : a.eval s = v) (hown : w0.ownsRow base e 1 v n xs)
    (u : Value) (c : Nat) (hx : a.eval x = .slice (some ⟨w0.heap.size, 0, none⟩) 1 c) (h1 : u.oneCell' = true)
    (h63 : n + 1 ≤ 1000000000000) (hby : bytes ≤ 16) (hbase : base ≤ w0.heap.size)
    (h : ∀ v' w', w'.ownsRow base e 1 v' (n + 1) (xs ++ [u]) → Below base w0 w' → w0.grownBy w' v.ownBlock → wpList P ops Q rest (a.put o.dst v') w') :
    wpList P ops Q (o :: rest) a (w0.alloc (.cells #[u] e)) :=
  wpList_push hgd s x t ho base e z 1 bytes ht hinfo hzs (by omega) v n xs hs hown #[u] c hx rfl (by intro y hy; simp at hy; subst hy; exact h1)
    (by unfold maxLen; omega) (by have : (n + 1) * bytes ≤ (n + 1) * 16 := Nat.mul_le_mul_left _ hby
                                  omega) hbase h

/-- append of m elements that lie whole in a block, AS A STEP OF A REGION THAT DRAWS ITS ORDER (for 'go_region_law') -/
theorem step_push {W : World} {ops : Array Oper} {o : Oper} {a : Act} {K : Act → World → Prop} {Q : Exit → Act → World → Prop} {E : Prop} (hgd : o.guard = none) (s x : Operand) (t : TypeId)
    (ho : o.op = .call { callee := .builtin .append, args := #[s, x], argTypes := #[t, t] })
    (base : Nat) (e : TypeId) (z : Value) (size bytes : Nat) (ht : P.underlying t = some (.slice e)) (hinfo : (P.info? e).map (fun i => (i.zero, i.size, i.bytes)) = some (some z, size, bytes))
    (hzs : z.cells.size = size) (hsz : 0 < size)
    (v : Value) (n : Nat) (xs : List Value) (hs : a.eval s = v) (hown : W.ownsRow base e size v n xs)
    (B : Nat) (cs : Array Value) (m c : Nat) (hx : a.eval x = .slice (some ⟨B, 0, none⟩) m c) (hblk : W.heap[B]? = some (.cells cs e (0, 0))) (hcs : cs.size = m * size) (h1 : ∀ u ∈ cs.toList, u.oneCell' = true) (hm : 0 < m)
    (h63 : n + m ≤ 1000000000000) (hby : bytes ≤ 100) (hbase : base ≤ W.heap.size)
    (h : ∀ g cap w', w'.ownsRow base e size (.slice (some ⟨g, 0, none⟩) (n + m) cap) (n + m) (xs ++ cs.toList) → Below base W w' → g < w'.heap.size → K (a.put o.dst (.slice (some ⟨g, 0, none⟩) (n + m) cap)) w') :
    if Region.wanted o (yielded ops a.tmps) = true then Oper.wp P o a W K Q else E := by
  obtain ⟨i0, hi, hz0, hz1, hz2⟩ := info_parts hinfo
  have hbb : (n + m) * bytes ≤ 140737488355328 := Nat.le_trans (Nat.mul_le_mul h63 hby) (by omega)
  refine step_append_lies _ hgd s x t ho base e i0 z size bytes ht hi hz0 hz1 hz2 hzs hsz v n xs hs hown ⟨B, 0, none⟩ m c cs.toList hx (by simp [hcs])
    (World.news_of_block hblk) h1 hm (by unfold maxLen; omega) hbb hbase _ rfl (fun g cap w' hown' hg _ hlt => h g cap w' hown' ?_ hlt)
  exact (Below.refl base W).grown hg hbase (fun k hk => (hown.lt k hk).1)

/-- the slice value v is the call's own row of the bytes l -/
def OwnB (e : TypeId) (base : Nat) (w : World) (v : Value) (l : List UInt8) : Prop := w.ownsRow base e 1 v l.length (l.map fun x => Value.int .u8 x.toNat)
theorem OwnB.row {e : TypeId} {base : Nat} {w : World} {v : Value} {l : List UInt8} (h : OwnB e base w v l) : w.ownsRow base e 1 v l.length (l.map fun x => Value.int .u8 x.toNat) := h
theorem OwnB.snoc {e : TypeId} {base : Nat} {w : World} {v : Value} {l : List UInt8} {b : UInt8} {x : Int} (h : w.ownsRow base e 1 v (l.length + 1) ((l.map fun x => Value.int .u8 x.toNat) ++ [Value.int .u8 x])) (hb : x = b.toNat) : OwnB e base w v (l ++ [b]) := by
  subst hb
  simpa [OwnB] using h
theorem OwnB.more {e : TypeId} {base : Nat} {w : World} {v : Value} {l m : List UInt8} {n : Nat} {cs : List Value} (h : w.ownsRow base e 1 v n cs) (hc : cs = (l ++ m).map fun x => Value.int .u8 x.toNat) : OwnB e base w v (l ++ m) := by
  subst hc
  have hn : n = (l ++ m).length := by have := h.1; simpa using this.symm
  subst hn
  exact h
theorem OwnB.form {e : TypeId} {base : Nat} {w : World} {v : Value} {l : List UInt8} (h : OwnB e base w v l) : ∃ a cap, v = .slice a l.length cap := by
  rcases h.2 with ⟨rfl, h0⟩ | ⟨g, c, cur, hv, _⟩
  · exact ⟨none, 0, by rw [h0]⟩
  · exact ⟨_, _, hv⟩
theorem OwnB.conv {src e dst : TypeId} (hs : P.underlying src = some (.slice e)) (he : P.underlying e = some (.int .u8)) (hd : P.underlying dst = some .string) {w : World} {base : Nat} {v : Value} {l : List UInt8}
    (h : OwnB e base w v l) : (convert src dst v).run P w = .ok (str l) w := by
  obtain ⟨a, cap, rfl⟩ := h.form
  exact conv_own hs he hd h
end
end Go.Proofs.Ytgjebjoaemeeoaa.kit
