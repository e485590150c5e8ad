/-
  The library's table of powers of ten, out of what a row lists; a world that holds the listed tables.
-/
import Derived.Test.YtmojigimlhjphaaDoorC1Int
import Derived.Deep.DeepHandedRow
import Derived.Lib.LaidTab
import Derived.LaidSub
namespace Go.Proofs.YtmojigimlhjphaaDoor.kit
open Go.ChangeShapes Go.WideShapes Go.ChangeAt Go.RowKit

theorem gPow : Tryd.prog.globalNamed "internal/strconv.uint64pow10" = some 3 := by kernel_rfl
theorem gPowType : (Tryd.prog.globals[3]?).map (·.type) = some 107 := by kernel_rfl
theorem cellsPow : Tryd.prog.cellsOf 107 = 20 := by kernel_rfl
theorem cellsU64 : Tryd.prog.cellsOf 94 = 1 := by kernel_rfl
theorem tab_of_laid {laid : List (String × DataW Unit)} {W : World} (he : laid.filter (fun x => x.1 == "internal/strconv.uint64pow10") = [("internal/strconv.uint64pow10", Rows.laid_internal_strconv_uint64pow10)]) (h : laidMetH Tryd.prog laid W) : Tab W := by
  have h1 := h.filter fun x => x.1 == "internal/strconv.uint64pow10"
  rw [he] at h1
  have h2 : Lib.TabIs Tryd.prog W "internal/strconv.uint64pow10" .u64 Lib.pow10Tab := Lib.tabIs_of_head (rest := []) gPow gPowType Tryd.underlying107 Tryd.underlying94 cellsU64 cellsPow h1
  exact Lib.tabBelow_of_tabIs h2

def litVal : DataW Unit → Value
  | .lit (.int k n) => .int k n
  | _ => undef
def litVals : DataW Unit → List Value
  | .agg m => m.map litVal
  | d => [litVal d]
/-- a table's cells laid into the block of its variable -/
def laidCells (heap : Array Obj) (g : Nat) (d : DataW Unit) : Array Obj :=
  heap.modify g fun
    | .cells _ t frozen => .cells (match d with | .agg l => (l.flatMap litVals).toArray | _ => #[]) t frozen
    | o => o
end Go.Proofs.YtmojigimlhjphaaDoor.kit
