/-
  Small words that the seat's proofs share: a law's last step behind a world of which 'Below' alone is known; bytes read out of a row of the call's own; bit arithmetic in plain numbers.
-/
import Derived.Test.YtbimjllblaaddaaRows
import Derived.WalkKit
import Derived.ProofKit
import Derived.OpenShut
import Derived.ShutString
import Derived.WalkLawsBesides
import Derived.WalkSpells
import Derived.Outline
import Derived.Below
import Derived.Lib.Hide
import Derived.Deep.OwnRows
import Derived.Deep.QuietTactic
import Derived.BigQuiet
import Derived.ChangeSame
namespace Go.Proofs.Ytbimjllblaaddaa.kit
open Go.ChangeShapes Go.WideShapes Go.ChangeAt Go.RowKit

/-- a string out of a list of bytes -/
abbrev str (l : List UInt8) : Value := .string ⟨l.toArray⟩

theorem laidOut : laidOutB Try.prog = true := by kernel_rfl
theorem own : ownKnob Try.prog.godebug = none := by kernel_rfl

/-- what a law's walk is told of a []byte that came in: nil; or a row of 'cap' bytes, of which the first 'len' are its elements -/
def IsRow (k : IntKind) (w : World) (a : Option Addr) (len cap : Nat) (zs : List Int) : Prop :=
  (a = none ∧ len = 0 ∧ cap = 0 ∧ zs = []) ∨
  ∃ x, a = some x ∧ len ≤ cap ∧ cap ≤ maxLen ∧ zs.length = cap ∧ (∀ i, i < zs.length → w.cell? (x.add i) = some (.int k (zs.getD i 0))) ∧ ∀ n ∈ zs, (Lit.int k n).wf = true

theorem below_drewN {B : Nat} {a w : World} (h : Below B a w) (n : Nat) : Below B a (w.drewN n) := ⟨h.os, h.tape, h.output, h.size, h.block⟩

section
variable {P : Program}
/-- string([]byte{x}): the one-byte row that was made just before -/
theorem conv1 {src e dst : TypeId} (hs : P.underlying src = some (.slice e)) (he : P.underlying e = some (.int .u8)) (hd : P.underlying dst = some .string) (w : World) (x : Int) :
    (convert src dst (.slice (some ⟨w.heap.size, 0, none⟩) 1 1)).run P (w.alloc (.cells #[.int .u8 x] e)) = .ok (str [UInt8.ofNat x.toNat]) (w.alloc (.cells #[.int .u8 x] e)) := by
  have h := run_convert_bytes_arg (P := P) (w.alloc (.cells #[.int .u8 x] e)) src e hs he w.heap.size 0 1 1 [x] rfl (fun i hi => by
    obtain rfl : i = 0 := by omega
    simp [World.cell?_alloc_at]) dst hd
  rw [h]; rfl

/-- string(b), b the first 'len' places of a row of the call's own -/
theorem conv_row {src e dst : TypeId} (hs : P.underlying src = some (.slice e)) (he : P.underlying e = some (.int .u8)) (hd : P.underlying dst = some .string) {w : World} {b n len cap : Nat} {g : Nat → Int}
    (h : w.rowIs b e n (fun i => .int .u8 (g i))) (hl : len ≤ n) :
    (convert src dst (.slice (some ⟨b, 0, none⟩) len cap)).run P w = .ok (str ((List.range len).map fun i => UInt8.ofNat (g i).toNat)) w := by
  have h1 := run_convert_bytes_arg (P := P) w src e hs he b 0 len cap ((List.range len).map g) (by simp) (fun i hi => by
    have := h.cell (i := i) (by omega)
    simpa [List.getD, hi] using this) dst hd
  rw [h1]; simp [strOfNums, str, Function.comp_def]

/-- string(b), b a row of bytes that the call has gathered by append -/
theorem conv_own {src e dst : TypeId} (hs : P.underlying src = some (.slice e)) (he : P.underlying e = some (.int .u8)) (hd : P.underlying dst = some .string) {w : World} {base : Nat} {a : Option Addr} {cap : Nat} {l : List UInt8}
    (h : w.ownsRow base e 1 (.slice a l.length cap) l.length (l.map fun x => Value.int .u8 x.toNat)) :
    (convert src dst (.slice a l.length cap)).run P w = .ok (str l) w := by
  rcases h.2 with ⟨hn, h0⟩ | ⟨g, c, cur, hv, _⟩
  · obtain rfl := List.eq_nil_of_length_eq_zero h0
    injection hn with hn
    subst hn
    rw [run_convert_bytes_nil w src e hs he _ _ dst hd]; rfl
  · injection hv with hv _ _
    subst hv
    have h1 := run_convert_bytes_arg (P := P) w src e hs he g 0 l.length cap (l.map fun x => (x.toNat : Int)) (by simp) (fun i hi => by
      have := h.cellAt i (by omega)
      simpa [List.getD, hi] using this) dst hd
    rw [h1]; simp [strOfNums, str, Function.comp_def, UInt8.ofNat_toNat]
end
end Go.Proofs.Ytbimjllblaaddaa.kit
