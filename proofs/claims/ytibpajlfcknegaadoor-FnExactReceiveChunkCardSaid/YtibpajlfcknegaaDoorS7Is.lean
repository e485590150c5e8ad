/-
  errors.Is of nil, and of an error of the program's own struct type that wraps one of the three sentinels: by Go's own text of errors.Is and errors.is.
-/
import Derived.Test.YtibpajlfcknegaaDoorKit
import Derived.Test.YtibpajlfcknegaaDoorBoxC
import Derived.LaidEql
import Derived.Stop.Asserts
import Derived.RowKitTokens
namespace Go.Proofs.YtibpajlfcknegaaDoor.kit
open Go.ChangeShapes Go.WideShapes Go.ChangeAt Go.RowKit Go.Extern.Stop Go.Stop Go.Extern
set_option linter.unusedVariables false
set_option linter.unusedSimpArgs false

theorem isTypeOf (v : Value) (w : World) : (Extern.ReflectliteType.typeOf #[.iface 146 v]).run Tryd.prog w = .ok (.iface 108 (.agg #[.pointer (some ⟨9, 146, none⟩)])) w := by kernel_rfl
open Go.Extern.ReflectliteType Go.Extern.Rtype in
def cmpExt : Array Value → Sem Value := Extern.ReflectliteType.method fun t => do noPackHeld "Comparable" t; pure (.bool (← typeInfo t).comparable)
theorem isComparable (w : World) : (cmpExt #[.agg #[.pointer (some ⟨9, 146, none⟩)]]).run Tryd.prog w = .ok (.bool true) w := by kernel_rfl
theorem isMethodComparable (v : Value) (w : World) : (Go.method 282 108 v "Comparable").run Tryd.prog w = .ok (131, v) w := by kernel_rfl
theorem isComp : (Tryd.prog.info? 146).map (·.comparable) = some true := by kernel_rfl
theorem isSize : (Tryd.prog.info? 170).map (·.size) = some 1 := by kernel_rfl
theorem noIsE (v : Value) (xT : TypeId) (w : World) : (Instr.typeAssert (.iface 146 v) xT 110 true).run Tryd.prog w = .ok (.tuple #[.nilIface, .bool false]) w := run_typeAssert_lacksB Tryd.underlying110 (by kernel_rfl) (by kernel_rfl) v xT w
theorem noUnwrapE (v : Value) (xT : TypeId) (w : World) : (Instr.typeAssert (.iface 146 v) xT 113 true).run Tryd.prog w = .ok (.tuple #[.nilIface, .bool false]) w := run_typeAssert_lacksB Tryd.underlying113 (by kernel_rfl) (by kernel_rfl) v xT w
theorem noUnwrapsE (v : Value) (xT : TypeId) (w : World) : (Instr.typeAssert (.iface 146 v) xT 115 true).run Tryd.prog w = .ok (.tuple #[.nilIface, .bool false]) w := run_typeAssert_lacksB Tryd.underlying115 (by kernel_rfl) (by kernel_rfl) v xT w
theorem noIsP (v : Value) (xT : TypeId) (w : World) : (Instr.typeAssert (.iface 91 v) xT 110 true).run Tryd.prog w = .ok (.tuple #[.nilIface, .bool false]) w := run_typeAssert_lacksB Tryd.underlying110 (by kernel_rfl) (by kernel_rfl) v xT w
theorem hasUnwrapP (v : Value) (xT : TypeId) (w : World) : (Instr.typeAssert (.iface 91 v) xT 113 true).run Tryd.prog w = .ok (.tuple #[.iface 91 v, .bool true]) w := run_typeAssert_hasB Tryd.underlying113 (by kernel_rfl) v xT w
theorem methodUnwrap (v : Value) (w : World) : (Go.method 282 91 v "Unwrap").run Tryd.prog w = .ok (127, v) w := by kernel_rfl
/-- errors.Is(nil, x) -/
theorem is_nil (b : Addr) (w : World) :
    Calls Tryd.prog 44 #[.nilIface, .iface 146 (.pointer (some b))] w fun e w' => e = .returned (.bool false) ∧ w = w' := by
  have hn := run_eql_iface_nil_left (P := Tryd.prog) w 146 (.pointer (some b)) Tryd.underlying73
  go_enter Tryd.func44, Tryd.ntmps44
  go_wp2_with fail
  go_ret
  exact ⟨rfl, rfl⟩
set_option maxRecDepth 100000 in
/-- errors.Is(e, x), e one of the program's own errors that wraps x -/
theorem is_part_same (n : Int) (b : Addr) (w : World) :
    Calls Tryd.prog 44 #[.iface 91 (.agg #[.int .i64 n, .iface 146 (.pointer (some b))]), .iface 146 (.pointer (some b))] w fun e w' => e = .returned (.bool true) ∧ Below w.heap.size w w' := by
  obtain ⟨i, hi, hcmp⟩ := Option.map_eq_some_iff.1 isComp
  obtain ⟨j, hj, hjs⟩ := Option.map_eq_some_iff.1 isSize
  have h8 := @run_callFunc_extern Tryd.prog 62 _ Extern.ReflectliteType.typeOf Tryd.func62 (by kernel_rfl) (by kernel_rfl) (by kernel_rfl) (by kernel_rfl)
  have h32 := @run_callFunc_extern Tryd.prog 131 _ cmpExt Tryd.func131 (by kernel_rfl) (by kernel_rfl) (by kernel_rfl) (by kernel_rfl)
  have tT := isTypeOf
  have cT := isComparable
  have mR := isMethodComparable
  have nE := noIsE
  have uE := noUnwrapE
  have vE := noUnwrapsE
  have nW := noIsP
  have uW := hasUnwrapP
  have mU := methodUnwrap
  have heq := fun W => run_eql_iface_ptr_same (P := Tryd.prog) W b Tryd.underlying73 Tryd.underlying146 hi hcmp hj
  have hty := run_eql_iface_types (P := Tryd.prog) 91 146 (.agg #[.int .i64 n, .iface 146 (.pointer (some b))]) (.pointer (some b)) Tryd.underlying73 (by decide) w
  go_enter Tryd.func44, Tryd.ntmps44
  go_wp2
  refine wp_loop_rounds 2 ?_
  rw [rounds_succ]
  go_wp2
  rw [rounds_succ]
  go_wp2
  go_ret
  exact ⟨rfl, (Below.refl _ _).alloc (Nat.le_refl _) _⟩
set_option maxRecDepth 100000 in
/-- errors.Is(e, x), e one of the program's own errors that wraps another sentinel -/
theorem is_part_other (n : Int) (b a : Addr) (ca cb : Array Value) (ta tb : TypeId) (w : World) (hne : a ≠ b) (ha : w.heap[a.block]? = some (.cells ca ta (0, 0))) (hb : w.heap[b.block]? = some (.cells cb tb (0, 0))) :
    Calls Tryd.prog 44 #[.iface 91 (.agg #[.int .i64 n, .iface 146 (.pointer (some a))]), .iface 146 (.pointer (some b))] w fun e w' => e = .returned (.bool false) ∧ Below w.heap.size w w' := by
  obtain ⟨i, hi, hcmp⟩ := Option.map_eq_some_iff.1 isComp
  obtain ⟨j, hj, hjs⟩ := Option.map_eq_some_iff.1 isSize
  have h8 := @run_callFunc_extern Tryd.prog 62 _ Extern.ReflectliteType.typeOf Tryd.func62 (by kernel_rfl) (by kernel_rfl) (by kernel_rfl) (by kernel_rfl)
  have h32 := @run_callFunc_extern Tryd.prog 131 _ cmpExt Tryd.func131 (by kernel_rfl) (by kernel_rfl) (by kernel_rfl) (by kernel_rfl)
  have tT := isTypeOf
  have cT := isComparable
  have mR := isMethodComparable
  have nE := noIsE
  have uE := noUnwrapE
  have vE := noUnwrapsE
  have nW := noIsP
  have uW := hasUnwrapP
  have mU := methodUnwrap
  have hla := (Array.getElem?_eq_some_iff.1 ha).1
  have hlb := (Array.getElem?_eq_some_iff.1 hb).1
  have heq := fun W (h1 : W.heap[a.block]? = some (.cells ca ta (0, 0))) (h2 : W.heap[b.block]? = some (.cells cb tb (0, 0))) => run_eql_iface_ptr_other (P := Tryd.prog) W Tryd.underlying73 Tryd.underlying146 hi hcmp hj (by rw [hjs]; decide) hne h1 h2
  have hal : ∀ o, (w.alloc o).heap[a.block]? = some (.cells ca ta (0, 0)) ∧ (w.alloc o).heap[b.block]? = some (.cells cb tb (0, 0)) := fun o => ⟨(Below.heap_alloc w o a.block hla).trans ha, (Below.heap_alloc w o b.block hlb).trans hb⟩
  have heq' := fun o => heq (w.alloc o) (hal o).1 (hal o).2
  have hty := run_eql_iface_types (P := Tryd.prog) 91 146 (.agg #[.int .i64 n, .iface 146 (.pointer (some a))]) (.pointer (some b)) Tryd.underlying73 (by decide) w
  clear heq hal hla hlb ha hb
  go_enter Tryd.func44, Tryd.ntmps44
  go_wp2
  refine wp_loop_rounds 2 ?_
  rw [rounds_succ]
  go_wp2
  rw [rounds_succ]
  go_wp2
  go_ret
  exact ⟨rfl, (Below.refl _ _).alloc (Nat.le_refl _) _⟩
end Go.Proofs.YtibpajlfcknegaaDoor.kit
