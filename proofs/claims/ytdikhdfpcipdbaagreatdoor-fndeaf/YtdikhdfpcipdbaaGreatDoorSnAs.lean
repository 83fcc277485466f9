/- Chapter 8: errors.As at a refusal and a variable of that type; Go's own text of errors.As and errors.as is walked. -/
import Derived.Test.YtdikhdfpcipdbaaGreatDoorSnIs
import Derived.Laws.CopyRow
import Derived.Laws.Cells
namespace Go.Proofs.YtdikhdfpcipdbaaGreatDoor.sane
open Go.ChangeShapes Go.WideShapes Go.ChangeAt Go.RowKit
open Go.Extern.Stop Go.Stop Go.Extern
open Go.Proofs.YtdikhdfpcipdbaaGreatDoor.nums Go.Proofs.YtdikhdfpcipdbaaGreatDoor.mem
open Go.Proofs.YtdikhdfpcipdbaaGreatDoor.tab (Ret)
set_option linter.unusedVariables false

/-- errors.As(nil, target). -/
theorem as_nil (t : Value) (w : World) : Calls Tryz.prog 117 #[.nilIface, t] w (Ret (.bool false) w) := by
  go_enter Tryz.func117, Tryz.ntmps117
  go_wp2
  go_ret
  exact ⟨rfl, gr_refl _ _⟩

/-! ### closed facts on the model's entries -/
abbrev hd (t : TypeId) : Value := .pointer (some ⟨7, t, none⟩)
/-- reflectlite's Type of a type. -/
abbrev ty (t : TypeId) : Value := .iface 196 (.agg #[hd t])
/-- The Value that ValueOf makes of a pointer to a refusal. -/
abbrev vp (a : Addr) : Value := .agg #[hd 153, .pointer (some a), .int .u64 150]
abbrev ve (a : Addr) : Value := .agg #[hd 150, .pointer (some a), .int .u64 409]
abbrev vr (a : Addr) : Value := .agg #[hd 150, .pointer (some a), .int .u64 153]

theorem asValueOfP (t : Addr) (w : World) : (ReflectliteValue.unpack (.iface 153 (.pointer (some t)))).run Tryz.prog w
    = .ok (vp ⟨w.heap.size, 0, none⟩) (w.alloc (.cells #[.pointer (some t)] 153)) := by kernel_rfl
theorem asValueOfR (a b c d : Value) (w : World) : (ReflectliteValue.unpack (.iface 150 (.agg #[a, b, c, d]))).run Tryz.prog w
    = .ok (vr ⟨w.heap.size, 0, none⟩) (w.alloc (.cells #[a, b, c, d] 150)) := by kernel_rfl
theorem asType : ∃ g : Array Value → Sem Value, Extern.find Tryz.f129 = some g ∧ ∀ (a : Addr) (w : World), (g #[vp a]).run Tryz.prog w = .ok (ty 153) w :=
  ⟨(Extern.find Tryz.f129).get (by kernel_rfl), (Option.some_get _).symm, fun a w => by kernel_rfl⟩
theorem asMethodKind (h : Value) (w : World) : (Go.method 392 196 (.agg #[h]) "Kind").run Tryz.prog w = .ok (211, h) w := by kernel_rfl
theorem asKind : ∃ g : Array Value → Sem Value, Extern.find Tryz.f211 = some g ∧ (∀ w : World, (g #[hd 153]).run Tryz.prog w = .ok (.int .u8 22) w) ∧ ∀ w : World, (g #[hd 150]).run Tryz.prog w = .ok (.int .u8 25) w :=
  ⟨(Extern.find Tryz.f211).get (by kernel_rfl), (Option.some_get _).symm, fun w => by kernel_rfl, fun w => by kernel_rfl⟩
theorem asMethodElem (h : Value) (w : World) : (Go.method 392 196 (.agg #[h]) "Elem").run Tryz.prog w = .ok (226, .agg #[h]) w := by kernel_rfl
theorem asMethodImplements (h : Value) (w : World) : (Go.method 392 196 (.agg #[h]) "Implements").run Tryz.prog w = .ok (227, .agg #[h]) w := by kernel_rfl
theorem asMethodAssignable (h : Value) (w : World) : (Go.method 392 196 (.agg #[h]) "AssignableTo").run Tryz.prog w = .ok (224, .agg #[h]) w := by kernel_rfl
theorem asElem : ∃ g : Array Value → Sem Value, Extern.find Tryz.f226 = some g ∧ ∀ w : World, (g #[.agg #[hd 153]]).run Tryz.prog w = .ok (ty 150) w :=
  ⟨(Extern.find Tryz.f226).get (by kernel_rfl), (Option.some_get _).symm, fun w => by kernel_rfl⟩
theorem asImplements : ∃ g : Array Value → Sem Value, Extern.find Tryz.f227 = some g ∧ ∀ w : World, (g #[.agg #[hd 150], ty 147]).run Tryz.prog w = .ok (.bool true) w :=
  ⟨(Extern.find Tryz.f227).get (by kernel_rfl), (Option.some_get _).symm, fun w => by kernel_rfl⟩
theorem asAssignable : ∃ g : Array Value → Sem Value, Extern.find Tryz.f224 = some g ∧ ∀ w : World, (g #[.agg #[hd 150], ty 150]).run Tryz.prog w = .ok (.bool true) w :=
  ⟨(Extern.find Tryz.f224).get (by kernel_rfl), (Option.some_get _).symm, fun w => by kernel_rfl⟩
theorem asTypeOf (v : Value) (w : World) : (Extern.ReflectliteType.typeOf #[.iface 150 v]).run Tryz.prog w = .ok (ty 150) w := by kernel_rfl

/-! ### the entries that read or write memory -/
theorem asPartsP (a : Addr) (w : World) : (ReflectliteValue.parts (vp a)).run Tryz.prog w = .ok (some (153, a, 150)) w := by kernel_rfl
theorem asPartsE (a : Addr) (w : World) : (ReflectliteValue.parts (ve a)).run Tryz.prog w = .ok (some (150, a, 409)) w := by kernel_rfl
theorem asPartsR (a : Addr) (w : World) : (ReflectliteValue.parts (vr a)).run Tryz.prog w = .ok (some (150, a, 153)) w := by kernel_rfl
theorem asElemOf (w : World) : (Rtype.elem? 153).run Tryz.prog w = .ok (some 150) w := by kernel_rfl
theorem asMk (p : Addr) (w : World) : (ReflectliteValue.mk 150 p ReflectliteValue.flagAddr).run Tryz.prog w = .ok (ve p) w := by kernel_rfl
theorem asDirect (w : World) : (Rtype.directlyAssignable 150 150).run Tryz.prog w = .ok true w := by kernel_rfl
theorem asSize (w : World) : (sizeOf 150).run Tryz.prog w = .ok 4 w := by kernel_rfl
/-- (Value).IsNil at the Value of a pointer that is not nil. -/
theorem asIsNil (a p : Addr) (W : World) (ha : W.cell? a = some (.pointer (some p))) :
    (ReflectliteValue.method (ReflectliteValue.valueError "reflectlite.Value.IsNil" 0) ReflectliteValue.isNil #[vp a]).run Tryz.prog W = .ok (.bool false) W := by
  show Sem.run Tryz.prog (Bind.bind (ReflectliteValue.parts (vp a)) _) W = _
  simp only [Sem.run_bind, asPartsP, Result.andThen]
  simp [ReflectliteValue.isNil, loadVar, isAgg, underlying, Tryz.underlying153, ha, Result.andThen]
/-- (Value).Elem at the Value of a pointer that is not nil. -/
theorem asElemV (a p : Addr) (W : World) (ha : W.cell? a = some (.pointer (some p))) :
    (ReflectliteValue.method (ReflectliteValue.valueError "reflectlite.Value.Elem" 0) ReflectliteValue.elem #[vp a]).run Tryz.prog W = .ok (ve p) W := by
  show Sem.run Tryz.prog (Bind.bind (ReflectliteValue.parts (vp a)) _) W = _
  simp only [Sem.run_bind, asPartsP, Result.andThen]
  simp [ReflectliteValue.elem, loadVar, isAgg, underlying, Tryz.underlying153, ha, Result.andThen, asElemOf, asMk]
theorem add_at (b j : Nat) : (⟨b, 0, none⟩ : Addr).add j = ⟨b, j, none⟩ := by
  unfold Addr.add; split <;> simp_all
theorem asLoad (b : Nat) (t : TypeId) (x0 x1 x2 x3 : Value) (W : World) (hb : Has W b t #[x0, x1, x2, x3]) : (loadVar 150 ⟨b, 0, none⟩).run Tryz.prog W = .ok (.agg #[x0, x1, x2, x3]) W := by
  have h := run_loadCells_list (P := Tryz.prog) (w := W) ⟨b, 0, none⟩ [x0, x1, x2, x3] (by
    intro j v hj
    rw [add_at, hb.cell j]
    simpa using hj)
  have h' : (loadCells ⟨b, 0, none⟩ 4).run Tryz.prog W = .ok #[x0, x1, x2, x3] W := by simpa using h
  simp [loadVar, isAgg, underlying, Tryz.underlying150, Result.andThen, h']
theorem asStore (g : Nat) (t : TypeId) (y0 y1 y2 y3 x0 x1 x2 x3 : Value) (W : World) (hg : Has W g t #[y0, y1, y2, y3]) (h1 : ∀ v ∈ [x0, x1, x2, x3], v.oneCell' = true) :
    (storeVar 150 ⟨g, 0, none⟩ (.agg #[x0, x1, x2, x3])).run Tryz.prog W = .ok () (W.setRow g #[x0, x1, x2, x3]) := by
  have h := run_storeCells_at (P := Tryz.prog) g 0 t [x0, x1, x2, x3] 0 #[y0, y1, y2, y3] W hg (by simp) h1
  have h' : (storeCells ⟨g, 0, none⟩ [x0, x1, x2, x3]).run Tryz.prog W = .ok () (W.setRow g #[x0, x1, x2, x3]) := by simpa using h
  simp [storeVar, Value.cells, Result.andThen, h']
/-- (Value).Set: the refusal's variable gets what the Value's own variable holds. -/
theorem asSet (g b : Nat) (t t' : TypeId) (y0 y1 y2 y3 x0 x1 x2 x3 : Value) (W : World) (hb : Has W b t' #[x0, x1, x2, x3]) (hg : Has W g t #[y0, y1, y2, y3]) (h1 : ∀ v ∈ [x0, x1, x2, x3], v.oneCell' = true) :
    (ReflectliteValue.set #[ve ⟨g, 0, none⟩, vr ⟨b, 0, none⟩]).run Tryz.prog W = .ok (.tuple #[]) (W.setRow g #[x0, x1, x2, x3]) := by
  show Sem.run Tryz.prog (Bind.bind (ReflectliteValue.parts (ve ⟨g, 0, none⟩)) fun p => Bind.bind (ReflectliteValue.parts (vr ⟨b, 0, none⟩)) _) W = _
  simp only [Sem.run_bind, asPartsE, asPartsR, Result.andThen]
  simp [ReflectliteValue.flagAddr, Result.andThen, asDirect, asLoad b t' x0 x1 x2 x3 W hb, asStore g t y0 y1 y2 y3 x0 x1 x2 x3 W hg h1]
end Go.Proofs.YtdikhdfpcipdbaaGreatDoor.sane
