/- Chapter 8: errors.As at a refusal and a variable of that type; Go's own text of errors.As and errors.as is walked. -/
import Derived.Test.YtdjaikjakdidcaaDoorSnIs
import Derived.Laws.CopyRow
import Derived.Laws.Cells
namespace Go.Proofs.YtdjaikjakdidcaaDoor.sane
open Go.ChangeShapes Go.WideShapes Go.ChangeAt Go.RowKit
open Go.Extern.Stop Go.Stop Go.Extern
open Go.Proofs.YtdjaikjakdidcaaDoor.nums Go.Proofs.YtdjaikjakdidcaaDoor.mem
open Go.Proofs.YtdjaikjakdidcaaDoor.tab (Ret)
set_option linter.unusedVariables false

/-- errors.As(nil, target). -/
theorem as_nil (t : Value) (w : World) : Calls Tryd.prog 23 #[.nilIface, t] w (Ret (.bool false) w) := by
  go_enter Tryd.func23, Tryd.ntmps23
  go_wp2
  go_ret
  exact ⟨rfl, gr_refl _ _⟩

/-! ### closed facts on the model's entries -/
abbrev hd (t : TypeId) : Value := .pointer (some ⟨4, t, none⟩)
/-- reflectlite's Type of a type. -/
abbrev ty (t : TypeId) : Value := .iface 83 (.agg #[hd t])
/-- The Value that ValueOf makes of a pointer to a refusal. -/
abbrev vp (a : Addr) : Value := .agg #[hd 49, .pointer (some a), .int .u64 150]
abbrev ve (a : Addr) : Value := .agg #[hd 46, .pointer (some a), .int .u64 409]
abbrev vr (a : Addr) : Value := .agg #[hd 46, .pointer (some a), .int .u64 153]

theorem asValueOfP (t : Addr) (w : World) : (ReflectliteValue.unpack (.iface 49 (.pointer (some t)))).run Tryd.prog w
    = .ok (vp ⟨w.heap.size, 0, none⟩) (w.alloc (.cells #[.pointer (some t)] 49)) := by kernel_rfl
theorem asValueOfR (a b c d : Value) (w : World) : (ReflectliteValue.unpack (.iface 46 (.agg #[a, b, c, d]))).run Tryd.prog w
    = .ok (vr ⟨w.heap.size, 0, none⟩) (w.alloc (.cells #[a, b, c, d] 46)) := by kernel_rfl
theorem asType : ∃ g : Array Value → Sem Value, Extern.find Tryd.f43 = some g ∧ ∀ (a : Addr) (w : World), (g #[vp a]).run Tryd.prog w = .ok (ty 49) w :=
  ⟨(Extern.find Tryd.f43).get (by kernel_rfl), (Option.some_get _).symm, fun a w => by kernel_rfl⟩
theorem asMethodKind (h : Value) (w : World) : (Go.method 234 83 (.agg #[h]) "Kind").run Tryd.prog w = .ok (68, h) w := by kernel_rfl
theorem asKind : ∃ g : Array Value → Sem Value, Extern.find Tryd.f68 = some g ∧ (∀ w : World, (g #[hd 49]).run Tryd.prog w = .ok (.int .u8 22) w) ∧ ∀ w : World, (g #[hd 46]).run Tryd.prog w = .ok (.int .u8 25) w :=
  ⟨(Extern.find Tryd.f68).get (by kernel_rfl), (Option.some_get _).symm, fun w => by kernel_rfl, fun w => by kernel_rfl⟩
theorem asMethodElem (h : Value) (w : World) : (Go.method 234 83 (.agg #[h]) "Elem").run Tryd.prog w = .ok (79, .agg #[h]) w := by kernel_rfl
theorem asMethodImplements (h : Value) (w : World) : (Go.method 234 83 (.agg #[h]) "Implements").run Tryd.prog w = .ok (80, .agg #[h]) w := by kernel_rfl
theorem asMethodAssignable (h : Value) (w : World) : (Go.method 234 83 (.agg #[h]) "AssignableTo").run Tryd.prog w = .ok (77, .agg #[h]) w := by kernel_rfl
theorem asElem : ∃ g : Array Value → Sem Value, Extern.find Tryd.f79 = some g ∧ ∀ w : World, (g #[.agg #[hd 49]]).run Tryd.prog w = .ok (ty 46) w :=
  ⟨(Extern.find Tryd.f79).get (by kernel_rfl), (Option.some_get _).symm, fun w => by kernel_rfl⟩
theorem asImplements : ∃ g : Array Value → Sem Value, Extern.find Tryd.f80 = some g ∧ ∀ w : World, (g #[.agg #[hd 46], ty 43]).run Tryd.prog w = .ok (.bool true) w :=
  ⟨(Extern.find Tryd.f80).get (by kernel_rfl), (Option.some_get _).symm, fun w => by kernel_rfl⟩
theorem asAssignable : ∃ g : Array Value → Sem Value, Extern.find Tryd.f77 = some g ∧ ∀ w : World, (g #[.agg #[hd 46], ty 46]).run Tryd.prog w = .ok (.bool true) w :=
  ⟨(Extern.find Tryd.f77).get (by kernel_rfl), (Option.some_get _).symm, fun w => by kernel_rfl⟩
theorem asTypeOf (v : Value) (w : World) : (Extern.ReflectliteType.typeOf #[.iface 46 v]).run Tryd.prog w = .ok (ty 46) w := by kernel_rfl

/-! ### the entries that read or write memory -/
theorem asPartsP (a : Addr) (w : World) : (ReflectliteValue.parts (vp a)).run Tryd.prog w = .ok (some (49, a, 150)) w := by kernel_rfl
theorem asPartsE (a : Addr) (w : World) : (ReflectliteValue.parts (ve a)).run Tryd.prog w = .ok (some (46, a, 409)) w := by kernel_rfl
theorem asPartsR (a : Addr) (w : World) : (ReflectliteValue.parts (vr a)).run Tryd.prog w = .ok (some (46, a, 153)) w := by kernel_rfl
theorem asElemOf (w : World) : (Rtype.elem? 49).run Tryd.prog w = .ok (some 46) w := by kernel_rfl
theorem asMk (p : Addr) (w : World) : (ReflectliteValue.mk 46 p ReflectliteValue.flagAddr).run Tryd.prog w = .ok (ve p) w := by kernel_rfl
theorem asDirect (w : World) : (Rtype.directlyAssignable 46 46).run Tryd.prog w = .ok true w := by kernel_rfl
theorem asSize (w : World) : (sizeOf 46).run Tryd.prog w = .ok 4 w := by kernel_rfl
/-- (Value).IsNil at the Value of a pointer that is not nil. -/
theorem asIsNil (a p : Addr) (W : World) (ha : W.cell? a = some (.pointer (some p))) :
    (ReflectliteValue.method (ReflectliteValue.valueError "reflectlite.Value.IsNil" 0) ReflectliteValue.isNil #[vp a]).run Tryd.prog W = .ok (.bool false) W := by
  show Sem.run Tryd.prog (Bind.bind (ReflectliteValue.parts (vp a)) _) W = _
  simp only [Sem.run_bind, asPartsP, Result.andThen]
  simp [ReflectliteValue.isNil, loadVar, isAgg, underlying, Tryd.underlying49, ha, Result.andThen]
/-- (Value).Elem at the Value of a pointer that is not nil. -/
theorem asElemV (a p : Addr) (W : World) (ha : W.cell? a = some (.pointer (some p))) :
    (ReflectliteValue.method (ReflectliteValue.valueError "reflectlite.Value.Elem" 0) ReflectliteValue.elem #[vp a]).run Tryd.prog W = .ok (ve p) W := by
  show Sem.run Tryd.prog (Bind.bind (ReflectliteValue.parts (vp a)) _) W = _
  simp only [Sem.run_bind, asPartsP, Result.andThen]
  simp [ReflectliteValue.elem, loadVar, isAgg, underlying, Tryd.underlying49, ha, Result.andThen, asElemOf, asMk]
theorem add_at (b j : Nat) : (⟨b, 0, none⟩ : Addr).add j = ⟨b, j, none⟩ := by
  unfold Addr.add; split <;> simp_all
theorem asLoad (b : Nat) (t : TypeId) (x0 x1 x2 x3 : Value) (W : World) (hb : Has W b t #[x0, x1, x2, x3]) : (loadVar 46 ⟨b, 0, none⟩).run Tryd.prog W = .ok (.agg #[x0, x1, x2, x3]) W := by
  have h := run_loadCells_list (P := Tryd.prog) (w := W) ⟨b, 0, none⟩ [x0, x1, x2, x3] (by
    intro j v hj
    rw [add_at, hb.cell j]
    simpa using hj)
  have h' : (loadCells ⟨b, 0, none⟩ 4).run Tryd.prog W = .ok #[x0, x1, x2, x3] W := by simpa using h
  simp [loadVar, isAgg, underlying, Tryd.underlying46, Result.andThen, h']
theorem asStore (g : Nat) (t : TypeId) (y0 y1 y2 y3 x0 x1 x2 x3 : Value) (W : World) (hg : Has W g t #[y0, y1, y2, y3]) (h1 : ∀ v ∈ [x0, x1, x2, x3], v.oneCell' = true) :
    (storeVar 46 ⟨g, 0, none⟩ (.agg #[x0, x1, x2, x3])).run Tryd.prog W = .ok () (W.setRow g #[x0, x1, x2, x3]) := by
  have h := run_storeCells_at (P := Tryd.prog) g 0 t [x0, x1, x2, x3] 0 #[y0, y1, y2, y3] W hg (by simp) h1
  have h' : (storeCells ⟨g, 0, none⟩ [x0, x1, x2, x3]).run Tryd.prog W = .ok () (W.setRow g #[x0, x1, x2, x3]) := by simpa using h
  simp [storeVar, Value.cells, Result.andThen, h']
/-- (Value).Set: the refusal's variable gets what the Value's own variable holds. -/
theorem asSet (g b : Nat) (t t' : TypeId) (y0 y1 y2 y3 x0 x1 x2 x3 : Value) (W : World) (hb : Has W b t' #[x0, x1, x2, x3]) (hg : Has W g t #[y0, y1, y2, y3]) (h1 : ∀ v ∈ [x0, x1, x2, x3], v.oneCell' = true) :
    (ReflectliteValue.set #[ve ⟨g, 0, none⟩, vr ⟨b, 0, none⟩]).run Tryd.prog W = .ok (.tuple #[]) (W.setRow g #[x0, x1, x2, x3]) := by
  show Sem.run Tryd.prog (Bind.bind (ReflectliteValue.parts (ve ⟨g, 0, none⟩)) fun p => Bind.bind (ReflectliteValue.parts (vr ⟨b, 0, none⟩)) _) W = _
  simp only [Sem.run_bind, asPartsE, asPartsR, Result.andThen]
  simp [ReflectliteValue.flagAddr, Result.andThen, asDirect, asLoad b t' x0 x1 x2 x3 W hb, asStore g t y0 y1 y2 y3 x0 x1 x2 x3 W hg h1]
end Go.Proofs.YtdjaikjakdidcaaDoor.sane
