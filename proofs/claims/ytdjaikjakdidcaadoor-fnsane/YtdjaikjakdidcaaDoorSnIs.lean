/- Chapter 8: errors.Is at a refusal that wraps one of the program's three errors; Go's own text of errors.Is and errors.is is walked. -/
import Derived.Test.YtdjaikjakdidcaaDoorRd
import Derived.LaidEql
import Derived.Stop.Asserts
import Derived.RowKitTokens
namespace Go.Proofs.YtdjaikjakdidcaaDoor.sane
open Go.ChangeShapes Go.WideShapes Go.ChangeAt Go.RowKit
open Go.Extern.Stop Go.Stop Go.Extern
open Go.Proofs.YtdjaikjakdidcaaDoor.nums Go.Proofs.YtdjaikjakdidcaaDoor.mem
open Go.Proofs.YtdjaikjakdidcaaDoor.tab (Ret)
set_option linter.unusedVariables false

/-! ### closed facts: the target's type, its comparability, the method sets -/
theorem isTypeOf (v : Value) (w : World) : (Extern.ReflectliteType.typeOf #[.iface 100 v]).run Tryd.prog w = .ok (.iface 83 (.agg #[.pointer (some ⟨4, 100, none⟩)])) w := by kernel_rfl
/-- What the model has for Comparable: at this type it answers yes. -/
theorem isComparable : ∃ g : Array Value → Sem Value, Extern.find Tryd.f78 = some g ∧ ∀ w : World, (g #[.agg #[.pointer (some ⟨4, 100, none⟩)]]).run Tryd.prog w = .ok (.bool true) w :=
  ⟨(Extern.find Tryd.f78).get (by kernel_rfl), (Option.some_get _).symm, fun w => by kernel_rfl⟩
theorem isMethodComparable (v : Value) (w : World) : (Go.method 234 83 v "Comparable").run Tryd.prog w = .ok (78, v) w := by kernel_rfl
theorem isComp : (Tryd.prog.info? 100).map (·.comparable) = some true := by kernel_rfl
theorem isSize : (Tryd.prog.info? 122).map (·.size) = some 1 := by kernel_rfl
theorem noIsE (v : Value) (xT : TypeId) (w : World) : (Instr.typeAssert (.iface 100 v) xT 85 true).run Tryd.prog w = .ok (.tuple #[.nilIface, .bool false]) w := run_typeAssert_lacksB Tryd.underlying85 (by kernel_rfl) (by kernel_rfl) v xT w
theorem noUnwrapE (v : Value) (xT : TypeId) (w : World) : (Instr.typeAssert (.iface 100 v) xT 88 true).run Tryd.prog w = .ok (.tuple #[.nilIface, .bool false]) w := run_typeAssert_lacksB Tryd.underlying88 (by kernel_rfl) (by kernel_rfl) v xT w
theorem noUnwrapsE (v : Value) (xT : TypeId) (w : World) : (Instr.typeAssert (.iface 100 v) xT 90 true).run Tryd.prog w = .ok (.tuple #[.nilIface, .bool false]) w := run_typeAssert_lacksB Tryd.underlying90 (by kernel_rfl) (by kernel_rfl) v xT w
theorem noIsW (v : Value) (xT : TypeId) (w : World) : (Instr.typeAssert (.iface 46 v) xT 85 true).run Tryd.prog w = .ok (.tuple #[.nilIface, .bool false]) w := run_typeAssert_lacksB Tryd.underlying85 (by kernel_rfl) (by kernel_rfl) v xT w
theorem hasUnwrapW (v : Value) (xT : TypeId) (w : World) : (Instr.typeAssert (.iface 46 v) xT 88 true).run Tryd.prog w = .ok (.tuple #[.iface 46 v, .bool true]) w := run_typeAssert_hasB Tryd.underlying88 (by kernel_rfl) v xT w
theorem methodUnwrap (v : Value) (w : World) : (Go.method 234 46 v "Unwrap").run Tryd.prog w = .ok (72, v) w := by kernel_rfl

/-- A refusal as an error: what it keeps and what it wraps. -/
def refE (v a : Int) (o : Bool) (why : Addr) : Value := .iface 46 (.agg #[.int .i64 v, .int .i64 a, .bool o, .iface 100 (.pointer (some why))])

/-- errors.Is(nil, x). -/
theorem is_nil (b : Addr) (w : World) : Calls Tryd.prog 22 #[.nilIface, .iface 100 (.pointer (some b))] w (Ret (.bool false) w) := by
  have hn := run_eql_iface_nil_left (P := Tryd.prog) w 100 (.pointer (some b)) Tryd.underlying43
  go_enter Tryd.func22, Tryd.ntmps22
  go_wp2
  go_ret
  exact ⟨rfl, gr_refl _ _⟩

set_option maxHeartbeats 2000000 in
/-- errors.Is of a refusal that wraps x itself: one Unwrap, then equal. -/
theorem is_same (v a : Int) (o : Bool) (b : Addr) (w : World) : Calls Tryd.prog 22 #[refE v a o b, .iface 100 (.pointer (some b))] w (Ret (.bool true) w) := by
  unfold refE
  obtain ⟨i, hi, hcmp⟩ := Option.map_eq_some_iff.1 isComp
  obtain ⟨j, hj, hjs⟩ := Option.map_eq_some_iff.1 isSize
  obtain ⟨gC, fC, cT⟩ := isComparable
  have h8 := @run_callFunc_extern Tryd.prog 40 _ Extern.ReflectliteType.typeOf Tryd.func40 (by kernel_rfl) (by kernel_rfl) (by kernel_rfl) (by kernel_rfl)
  have h32 := @run_callFunc_extern Tryd.prog 78 _ gC Tryd.func78 (by kernel_rfl) (by kernel_rfl) (by kernel_rfl) fC
  have tT := isTypeOf
  have mR := isMethodComparable
  have nE := noIsE
  have uE := noUnwrapE
  have vE := noUnwrapsE
  have nW := noIsW
  have uW := hasUnwrapW
  have mU := methodUnwrap
  have heq := fun W : World => run_eql_iface_ptr_same (P := Tryd.prog) W b Tryd.underlying43 Tryd.underlying100 hi hcmp hj
  have hty := fun (W : World) (x : Value) => run_eql_iface_types (P := Tryd.prog) 46 100 x (.pointer (some b)) Tryd.underlying43 (by decide) W
  go_enter Tryd.func22, Tryd.ntmps22
  go_wp2
  refine wp_loop_rounds 2 ?_
  rw [rounds_succ]
  go_wp2
  rw [rounds_succ]
  go_wp2
  go_ret
  exact ⟨rfl, World.grownBy_alloc _ _ _⟩

set_option maxHeartbeats 2000000 in
/-- errors.Is of a refusal that wraps another error of errors.New's make: one Unwrap, then none. -/
theorem is_other (v a : Int) (o : Bool) (y b : Addr) (cy cb : Array Value) (ty tb : TypeId) (w : World) (hne : y ≠ b) (hy : Has w y.block ty cy) (hb : Has w b.block tb cb) : Calls Tryd.prog 22 #[refE v a o y, .iface 100 (.pointer (some b))] w (Ret (.bool false) w) := by
  unfold refE
  obtain ⟨i, hi, hcmp⟩ := Option.map_eq_some_iff.1 isComp
  obtain ⟨j, hj, hjs⟩ := Option.map_eq_some_iff.1 isSize
  obtain ⟨gC, fC, cT⟩ := isComparable
  have h8 := @run_callFunc_extern Tryd.prog 40 _ Extern.ReflectliteType.typeOf Tryd.func40 (by kernel_rfl) (by kernel_rfl) (by kernel_rfl) (by kernel_rfl)
  have h32 := @run_callFunc_extern Tryd.prog 78 _ gC Tryd.func78 (by kernel_rfl) (by kernel_rfl) (by kernel_rfl) fC
  have tT := isTypeOf
  have mR := isMethodComparable
  have nE := noIsE
  have uE := noUnwrapE
  have vE := noUnwrapsE
  have nW := noIsW
  have uW := hasUnwrapW
  have mU := methodUnwrap
  have heq := run_eql_iface_ptr_other (P := Tryd.prog) (w.alloc (Obj.cells #[.int .i64 v, .int .i64 a, .bool o, .iface 100 (.pointer (some y))] 46)) Tryd.underlying43 Tryd.underlying100 hi hcmp hj (by rw [hjs]; decide) hne (hy.alloc _) (hb.alloc _)
  have hty := fun (W : World) (x : Value) => run_eql_iface_types (P := Tryd.prog) 46 100 x (.pointer (some b)) Tryd.underlying43 (by decide) W
  go_enter Tryd.func22, Tryd.ntmps22
  go_wp2
  refine wp_loop_rounds 2 ?_
  rw [rounds_succ]
  go_wp2
  rw [rounds_succ]
  go_wp2
  go_ret
  exact ⟨rfl, World.grownBy_alloc _ _ _⟩
end Go.Proofs.YtdjaikjakdidcaaDoor.sane
