/- Chapter 15 on plain senses: what is fed. Chapter 8: errors.Is at a refusal that wraps one of the program's three errors; Go's own text of errors.Is and errors.is is walked. -/
import Derived.Test.YtjbgcgblamijdaaGreatDoorG8
import Derived.Test.YtjbgcgblamijdaaGreatDoorG9
import Derived.Test.YtjbgcgblamijdaaGreatDoorG20
import Derived.Test.YtjbgcgblamijdaaGreatDoorG5
import Derived.LaidEql
import Derived.Stop.Asserts
import Derived.RowKitTokens
/- Chapter 15 on plain senses: what is fed. -/
namespace Go.Proofs.YtjbgcgblamijdaaGreatDoor.se
open Go.ChangeShapes Go.WideShapes Go.ChangeAt Go.RowKit
open Go.Proofs.YtjbgcgblamijdaaGreatDoor.nums Go.Proofs.YtjbgcgblamijdaaGreatDoor.mem
open Go.Proofs.YtjbgcgblamijdaaGreatDoor.tab (Ret)
open Go.Proofs.YtjbgcgblamijdaaGreatDoor.rd (R okR ageR zR rx ra ro rx_map getD_lt OwnR)
open Go.Proofs.YtjbgcgblamijdaaGreatDoor.il (nth Ints Own)
open Go.Proofs.YtjbgcgblamijdaaGreatDoor.stm (Fr heard)
set_option linter.unusedVariables false

/-- What each value makes of its reading. -/
def each (f : R → Int → R) (l : List R) (vs : List Int) : List R := (List.range l.length).map fun i => f (rx l i, ra l i, ro l i) (nth vs i)
theorem each_len (f : R → Int → R) (l : List R) (vs : List Int) : (each f l vs).length = l.length := by simp [each]
theorem each_at {f : R → Int → R} {l : List R} {vs : List Int} {k : Nat} (h : k < l.length) : (each f l vs).getD k zR = f (rx l k, ra l k, ro l k) (nth vs k) := by simp [each, List.getD, h]
def tk (lo hi rt : Int) (r : R) (x : Int) : R := sane.taken lo hi rt r.1 r.2.1 x r.2.2
def gt (r : R) (x : Int) : R := rd.got r (btw x 0 1000)
/-- A list by what was heard of it. -/
def part (f : R → Int → R) (l : List R) (o : Option Fr) : List R := match o with
  | none => l.map ageR
  | some v => each f l v.2.2
theorem part_len (f : R → Int → R) (l : List R) (o : Option Fr) : (part f l o).length = l.length := by
  cases o
  · simp [part]
  · exact each_len _ _ _
def hd (s : S) (fs : List Fr) (k : Nat) : Option Fr := heard ((k : Int) + 1) (nth s.sq k) fs
def sqOf (s : S) (fs : List Fr) (k : Nat) : Int := match hd s fs k with
  | none => nth s.sq k
  | some f => f.2.1
def wnOf (s : S) (fs : List Fr) : Int := match hd s fs 3 with
  | none => s.wn
  | some f => if inb (nth f.2.2 0) 0 2 = true then nth f.2.2 0 else s.wn
def arOf (s : S) (fs : List Fr) : Bool := match hd s fs 3 with
  | none => s.ar
  | some f => !decide (nth f.2.2 1 = 0)
/-- Where k Kinds have been heard; what is not yet heard is aged. -/
def upto (s : S) (fs : List Fr) (k : Nat) : S where
  sp := part (tk 0 400 20) s.sp (if 0 < k then hd s fs 0 else none)
  he := part (tk 0 2000 60) s.he (if 1 < k then hd s fs 1 else none)
  fa := part gt s.fa (if 2 < k then hd s fs 2 else none)
  wn := if 3 < k then wnOf s fs else s.wn
  ar := if 3 < k then arOf s fs else s.ar
  sq := [if 0 < k then sqOf s fs 0 else nth s.sq 0, if 1 < k then sqOf s fs 1 else nth s.sq 1, if 2 < k then sqOf s fs 2 else nth s.sq 2, if 3 < k then sqOf s fs 3 else nth s.sq 3]
def fed (s : S) (fs : List Fr) : S := if ok s = true then upto s fs 4 else zS
theorem fed_ok {s : S} {fs : List Fr} (h : ok s = true) : fed s fs = upto s fs 4 := if_pos h
theorem fed_no {s : S} {fs : List Fr} (h : ok s = false) : fed s fs = zS := if_neg (by rw [h]; simp)
end Go.Proofs.YtjbgcgblamijdaaGreatDoor.se

/- Chapter 8: errors.Is at a refusal that wraps one of the program's three errors; Go's own text of errors.Is and errors.is is walked. -/
namespace Go.Proofs.YtjbgcgblamijdaaGreatDoor.sane
open Go.ChangeShapes Go.WideShapes Go.ChangeAt Go.RowKit
open Go.Extern.Stop Go.Stop Go.Extern
open Go.Proofs.YtjbgcgblamijdaaGreatDoor.nums Go.Proofs.YtjbgcgblamijdaaGreatDoor.mem
open Go.Proofs.YtjbgcgblamijdaaGreatDoor.tab (Ret)
set_option linter.unusedVariables false

/-! ### closed facts: the target's type, its comparability, the method sets -/
theorem isTypeOf (v : Value) (w : World) : (Extern.ReflectliteType.typeOf #[.iface 276 v]).run Tryz.prog w = .ok (.iface 219 (.agg #[.pointer (some ⟨7, 276, none⟩)])) w := by kernel_rfl
/-- What the model has for Comparable: at this type it answers yes. -/
theorem isComparable : ∃ g : Array Value → Sem Value, Extern.find Tryz.f249 = some g ∧ ∀ w : World, (g #[.agg #[.pointer (some ⟨7, 276, none⟩)]]).run Tryz.prog w = .ok (.bool true) w :=
  ⟨(Extern.find Tryz.f249).get (by kernel_rfl), (Option.some_get _).symm, fun w => by kernel_rfl⟩
theorem isMethodComparable (v : Value) (w : World) : (Go.method 415 219 v "Comparable").run Tryz.prog w = .ok (249, v) w := by kernel_rfl
theorem isComp : (Tryz.prog.info? 276).map (·.comparable) = some true := by kernel_rfl
theorem isSize : (Tryz.prog.info? 299).map (·.size) = some 1 := by kernel_rfl
theorem noIsE (v : Value) (xT : TypeId) (w : World) : (Instr.typeAssert (.iface 276 v) xT 221 true).run Tryz.prog w = .ok (.tuple #[.nilIface, .bool false]) w := run_typeAssert_lacksB Tryz.underlying221 (by kernel_rfl) (by kernel_rfl) v xT w
theorem noUnwrapE (v : Value) (xT : TypeId) (w : World) : (Instr.typeAssert (.iface 276 v) xT 224 true).run Tryz.prog w = .ok (.tuple #[.nilIface, .bool false]) w := run_typeAssert_lacksB Tryz.underlying224 (by kernel_rfl) (by kernel_rfl) v xT w
theorem noUnwrapsE (v : Value) (xT : TypeId) (w : World) : (Instr.typeAssert (.iface 276 v) xT 226 true).run Tryz.prog w = .ok (.tuple #[.nilIface, .bool false]) w := run_typeAssert_lacksB Tryz.underlying226 (by kernel_rfl) (by kernel_rfl) v xT w
theorem noIsW (v : Value) (xT : TypeId) (w : World) : (Instr.typeAssert (.iface 173 v) xT 221 true).run Tryz.prog w = .ok (.tuple #[.nilIface, .bool false]) w := run_typeAssert_lacksB Tryz.underlying221 (by kernel_rfl) (by kernel_rfl) v xT w
theorem hasUnwrapW (v : Value) (xT : TypeId) (w : World) : (Instr.typeAssert (.iface 173 v) xT 224 true).run Tryz.prog w = .ok (.tuple #[.iface 173 v, .bool true]) w := run_typeAssert_hasB Tryz.underlying224 (by kernel_rfl) v xT w
theorem methodUnwrap (v : Value) (w : World) : (Go.method 415 173 v "Unwrap").run Tryz.prog w = .ok (242, v) w := by kernel_rfl

/-- A refusal as an error: what it keeps and what it wraps. -/
def refE (v a : Int) (o : Bool) (why : Addr) : Value := .iface 173 (.agg #[.int .i64 v, .int .i64 a, .bool o, .iface 276 (.pointer (some why))])

/-- errors.Is(nil, x). -/
theorem is_nil (b : Addr) (w : World) : Calls Tryz.prog 141 #[.nilIface, .iface 276 (.pointer (some b))] w (Ret (.bool false) w) := by
  have hn := run_eql_iface_nil_left (P := Tryz.prog) w 276 (.pointer (some b)) Tryz.underlying170
  go_enter Tryz.func141, Tryz.ntmps141
  go_wp2
  go_ret
  exact ⟨rfl, gr_refl _ _⟩

set_option maxHeartbeats 2000000 in
/-- errors.Is of a refusal that wraps x itself: one Unwrap, then equal. -/
theorem is_same (v a : Int) (o : Bool) (b : Addr) (w : World) : Calls Tryz.prog 141 #[refE v a o b, .iface 276 (.pointer (some b))] w (Ret (.bool true) w) := by
  unfold refE
  obtain ⟨i, hi, hcmp⟩ := Option.map_eq_some_iff.1 isComp
  obtain ⟨j, hj, hjs⟩ := Option.map_eq_some_iff.1 isSize
  obtain ⟨gC, fC, cT⟩ := isComparable
  have h8 := @run_callFunc_extern Tryz.prog 151 _ Extern.ReflectliteType.typeOf Tryz.func151 (by kernel_rfl) (by kernel_rfl) (by kernel_rfl) (by kernel_rfl)
  have h32 := @run_callFunc_extern Tryz.prog 249 _ gC Tryz.func249 (by kernel_rfl) (by kernel_rfl) (by kernel_rfl) fC
  have tT := isTypeOf
  have mR := isMethodComparable
  have nE := noIsE
  have uE := noUnwrapE
  have vE := noUnwrapsE
  have nW := noIsW
  have uW := hasUnwrapW
  have mU := methodUnwrap
  have heq := fun W : World => run_eql_iface_ptr_same (P := Tryz.prog) W b Tryz.underlying170 Tryz.underlying276 hi hcmp hj
  have hty := fun (W : World) (x : Value) => run_eql_iface_types (P := Tryz.prog) 173 276 x (.pointer (some b)) Tryz.underlying170 (by decide) W
  go_enter Tryz.func141, Tryz.ntmps141
  go_wp2
  refine wp_loop_rounds 2 ?_
  rw [rounds_succ]
  go_wp2
  rw [rounds_succ]
  go_wp2
  go_ret
  exact ⟨rfl, World.grownBy_alloc _ _ _⟩

set_option maxHeartbeats 2000000 in
/-- errors.Is of a refusal that wraps another error of errors.New's make: one Unwrap, then none. -/
theorem is_other (v a : Int) (o : Bool) (y b : Addr) (cy cb : Array Value) (ty tb : TypeId) (w : World) (hne : y ≠ b) (hy : Has w y.block ty cy) (hb : Has w b.block tb cb) : Calls Tryz.prog 141 #[refE v a o y, .iface 276 (.pointer (some b))] w (Ret (.bool false) w) := by
  unfold refE
  obtain ⟨i, hi, hcmp⟩ := Option.map_eq_some_iff.1 isComp
  obtain ⟨j, hj, hjs⟩ := Option.map_eq_some_iff.1 isSize
  obtain ⟨gC, fC, cT⟩ := isComparable
  have h8 := @run_callFunc_extern Tryz.prog 151 _ Extern.ReflectliteType.typeOf Tryz.func151 (by kernel_rfl) (by kernel_rfl) (by kernel_rfl) (by kernel_rfl)
  have h32 := @run_callFunc_extern Tryz.prog 249 _ gC Tryz.func249 (by kernel_rfl) (by kernel_rfl) (by kernel_rfl) fC
  have tT := isTypeOf
  have mR := isMethodComparable
  have nE := noIsE
  have uE := noUnwrapE
  have vE := noUnwrapsE
  have nW := noIsW
  have uW := hasUnwrapW
  have mU := methodUnwrap
  have heq := run_eql_iface_ptr_other (P := Tryz.prog) (w.alloc (Obj.cells #[.int .i64 v, .int .i64 a, .bool o, .iface 276 (.pointer (some y))] 173)) Tryz.underlying170 Tryz.underlying276 hi hcmp hj (by rw [hjs]; decide) hne (hy.alloc _) (hb.alloc _)
  have hty := fun (W : World) (x : Value) => run_eql_iface_types (P := Tryz.prog) 173 276 x (.pointer (some b)) Tryz.underlying170 (by decide) W
  go_enter Tryz.func141, Tryz.ntmps141
  go_wp2
  refine wp_loop_rounds 2 ?_
  rw [rounds_succ]
  go_wp2
  rw [rounds_succ]
  go_wp2
  go_ret
  exact ⟨rfl, World.grownBy_alloc _ _ _⟩
end Go.Proofs.YtjbgcgblamijdaaGreatDoor.sane

