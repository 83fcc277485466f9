/- Chapter 8: errors.Is at a refusal that wraps one of the program's three errors; Go's own text of errors.Is and errors.is is walked. -/
import Derived.Test.YtdikhdfpcipdbaaGreatDoorRd
import Derived.LaidEql
import Derived.Stop.Asserts
import Derived.RowKitTokens
namespace Go.Proofs.YtdikhdfpcipdbaaGreatDoor.sane
open Go.ChangeShapes Go.WideShapes Go.ChangeAt Go.RowKit
open Go.Extern.Stop Go.Stop Go.Extern
open Go.Proofs.YtdikhdfpcipdbaaGreatDoor.nums Go.Proofs.YtdikhdfpcipdbaaGreatDoor.mem
open Go.Proofs.YtdikhdfpcipdbaaGreatDoor.tab (Ret)
set_option linter.unusedVariables false

/-! ### closed facts: the target's type, its comparability, the method sets -/
theorem isTypeOf (v : Value) (w : World) : (Extern.ReflectliteType.typeOf #[.iface 253 v]).run Tryz.prog w = .ok (.iface 196 (.agg #[.pointer (some ⟨7, 253, none⟩)])) w := by kernel_rfl
/-- What the model has for Comparable: at this type it answers yes. -/
theorem isComparable : ∃ g : Array Value → Sem Value, Extern.find Tryz.f225 = some g ∧ ∀ w : World, (g #[.agg #[.pointer (some ⟨7, 253, none⟩)]]).run Tryz.prog w = .ok (.bool true) w :=
  ⟨(Extern.find Tryz.f225).get (by kernel_rfl), (Option.some_get _).symm, fun w => by kernel_rfl⟩
theorem isMethodComparable (v : Value) (w : World) : (Go.method 392 196 v "Comparable").run Tryz.prog w = .ok (225, v) w := by kernel_rfl
theorem isComp : (Tryz.prog.info? 253).map (·.comparable) = some true := by kernel_rfl
theorem isSize : (Tryz.prog.info? 276).map (·.size) = some 1 := by kernel_rfl
theorem noIsE (v : Value) (xT : TypeId) (w : World) : (Instr.typeAssert (.iface 253 v) xT 198 true).run Tryz.prog w = .ok (.tuple #[.nilIface, .bool false]) w := run_typeAssert_lacksB Tryz.underlying198 (by kernel_rfl) (by kernel_rfl) v xT w
theorem noUnwrapE (v : Value) (xT : TypeId) (w : World) : (Instr.typeAssert (.iface 253 v) xT 201 true).run Tryz.prog w = .ok (.tuple #[.nilIface, .bool false]) w := run_typeAssert_lacksB Tryz.underlying201 (by kernel_rfl) (by kernel_rfl) v xT w
theorem noUnwrapsE (v : Value) (xT : TypeId) (w : World) : (Instr.typeAssert (.iface 253 v) xT 203 true).run Tryz.prog w = .ok (.tuple #[.nilIface, .bool false]) w := run_typeAssert_lacksB Tryz.underlying203 (by kernel_rfl) (by kernel_rfl) v xT w
theorem noIsW (v : Value) (xT : TypeId) (w : World) : (Instr.typeAssert (.iface 150 v) xT 198 true).run Tryz.prog w = .ok (.tuple #[.nilIface, .bool false]) w := run_typeAssert_lacksB Tryz.underlying198 (by kernel_rfl) (by kernel_rfl) v xT w
theorem hasUnwrapW (v : Value) (xT : TypeId) (w : World) : (Instr.typeAssert (.iface 150 v) xT 201 true).run Tryz.prog w = .ok (.tuple #[.iface 150 v, .bool true]) w := run_typeAssert_hasB Tryz.underlying201 (by kernel_rfl) v xT w
theorem methodUnwrap (v : Value) (w : World) : (Go.method 392 150 v "Unwrap").run Tryz.prog w = .ok (218, v) w := by kernel_rfl

/-- A refusal as an error: what it keeps and what it wraps. -/
def refE (v a : Int) (o : Bool) (why : Addr) : Value := .iface 150 (.agg #[.int .i64 v, .int .i64 a, .bool o, .iface 253 (.pointer (some why))])

/-- errors.Is(nil, x). -/
theorem is_nil (b : Addr) (w : World) : Calls Tryz.prog 116 #[.nilIface, .iface 253 (.pointer (some b))] w (Ret (.bool false) w) := by
  have hn := run_eql_iface_nil_left (P := Tryz.prog) w 253 (.pointer (some b)) Tryz.underlying147
  go_enter Tryz.func116, Tryz.ntmps116
  go_wp2
  go_ret
  exact ⟨rfl, gr_refl _ _⟩

set_option maxHeartbeats 2000000 in
/-- errors.Is of a refusal that wraps x itself: one Unwrap, then equal. -/
theorem is_same (v a : Int) (o : Bool) (b : Addr) (w : World) : Calls Tryz.prog 116 #[refE v a o b, .iface 253 (.pointer (some b))] w (Ret (.bool true) w) := by
  unfold refE
  obtain ⟨i, hi, hcmp⟩ := Option.map_eq_some_iff.1 isComp
  obtain ⟨j, hj, hjs⟩ := Option.map_eq_some_iff.1 isSize
  obtain ⟨gC, fC, cT⟩ := isComparable
  have h8 := @run_callFunc_extern Tryz.prog 126 _ Extern.ReflectliteType.typeOf Tryz.func126 (by kernel_rfl) (by kernel_rfl) (by kernel_rfl) (by kernel_rfl)
  have h32 := @run_callFunc_extern Tryz.prog 225 _ gC Tryz.func225 (by kernel_rfl) (by kernel_rfl) (by kernel_rfl) fC
  have tT := isTypeOf
  have mR := isMethodComparable
  have nE := noIsE
  have uE := noUnwrapE
  have vE := noUnwrapsE
  have nW := noIsW
  have uW := hasUnwrapW
  have mU := methodUnwrap
  have heq := fun W : World => run_eql_iface_ptr_same (P := Tryz.prog) W b Tryz.underlying147 Tryz.underlying253 hi hcmp hj
  have hty := fun (W : World) (x : Value) => run_eql_iface_types (P := Tryz.prog) 150 253 x (.pointer (some b)) Tryz.underlying147 (by decide) W
  go_enter Tryz.func116, Tryz.ntmps116
  go_wp2
  refine wp_loop_rounds 2 ?_
  rw [rounds_succ]
  go_wp2
  rw [rounds_succ]
  go_wp2
  go_ret
  exact ⟨rfl, World.grownBy_alloc _ _ _⟩

set_option maxHeartbeats 2000000 in
/-- errors.Is of a refusal that wraps another error of errors.New's make: one Unwrap, then none. -/
theorem is_other (v a : Int) (o : Bool) (y b : Addr) (cy cb : Array Value) (ty tb : TypeId) (w : World) (hne : y ≠ b) (hy : Has w y.block ty cy) (hb : Has w b.block tb cb) : Calls Tryz.prog 116 #[refE v a o y, .iface 253 (.pointer (some b))] w (Ret (.bool false) w) := by
  unfold refE
  obtain ⟨i, hi, hcmp⟩ := Option.map_eq_some_iff.1 isComp
  obtain ⟨j, hj, hjs⟩ := Option.map_eq_some_iff.1 isSize
  obtain ⟨gC, fC, cT⟩ := isComparable
  have h8 := @run_callFunc_extern Tryz.prog 126 _ Extern.ReflectliteType.typeOf Tryz.func126 (by kernel_rfl) (by kernel_rfl) (by kernel_rfl) (by kernel_rfl)
  have h32 := @run_callFunc_extern Tryz.prog 225 _ gC Tryz.func225 (by kernel_rfl) (by kernel_rfl) (by kernel_rfl) fC
  have tT := isTypeOf
  have mR := isMethodComparable
  have nE := noIsE
  have uE := noUnwrapE
  have vE := noUnwrapsE
  have nW := noIsW
  have uW := hasUnwrapW
  have mU := methodUnwrap
  have heq := run_eql_iface_ptr_other (P := Tryz.prog) (w.alloc (Obj.cells #[.int .i64 v, .int .i64 a, .bool o, .iface 253 (.pointer (some y))] 150)) Tryz.underlying147 Tryz.underlying253 hi hcmp hj (by rw [hjs]; decide) hne (hy.alloc _) (hb.alloc _)
  have hty := fun (W : World) (x : Value) => run_eql_iface_types (P := Tryz.prog) 150 253 x (.pointer (some b)) Tryz.underlying147 (by decide) W
  go_enter Tryz.func116, Tryz.ntmps116
  go_wp2
  refine wp_loop_rounds 2 ?_
  rw [rounds_succ]
  go_wp2
  rw [rounds_succ]
  go_wp2
  go_ret
  exact ⟨rfl, World.grownBy_alloc _ _ _⟩
end Go.Proofs.YtdikhdfpcipdbaaGreatDoor.sane
