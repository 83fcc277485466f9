/- What the listed variables' condition gives: the three errors and the type 'error'. -/
import Derived.Test.YtdikhdfpcipdbaaGreatDoorRows
import Derived.Test.YtdikhdfpcipdbaaGreatDoorG12
import Derived.LaidLaws
import Derived.LaidHandle
import Derived.Stop.LaidTwo
import Derived.LaidMore
import Derived.Stop.Joined
import Derived.Stop.LaidErr
/- What the listed variables' condition gives: the three errors and the type 'error'. -/
namespace Go.Proofs.YtdikhdfpcipdbaaGreatDoor.sane
open Go.ChangeShapes Go.WideShapes Go.ChangeAt Go.RowKit
open Go.Proofs.YtdikhdfpcipdbaaGreatDoor.mem
set_option linter.unusedVariables false

abbrev nameN : String := "loop.example/g00619/impl.errNotRight"
abbrev nameF : String := "loop.example/g00619/impl.errTooFar"
abbrev nameQ : String := "loop.example/g00619/impl.errTooFast"
theorem gN : Tryz.prog.globalNamed nameN = some 3 := by kernel_rfl
theorem gF : Tryz.prog.globalNamed nameF = some 4 := by kernel_rfl
theorem gQ : Tryz.prog.globalNamed nameQ = some 5 := by kernel_rfl
theorem gNt : (Tryz.prog.globals[3]?).map (·.type) = some 147 := by kernel_rfl
theorem gFt : (Tryz.prog.globals[4]?).map (·.type) = some 147 := by kernel_rfl
theorem gQt : (Tryz.prog.globals[5]?).map (·.type) = some 147 := by kernel_rfl
theorem cellsE : Tryz.prog.cellsOf 276 = 1 := by kernel_rfl
theorem cellsS : Tryz.prog.cellsOf 9 = 1 := by kernel_rfl
theorem starE : "*" ++ "errors.errorString" = "*errors.errorString" := by decide
theorem rowE (u : TypeId) (h : Tryz.prog.typeName? 3 u = some "*errors.errorString") : u = 253 :=
  typeName_ptr_named (nm := "errors.errorString") (by rw [starE]; kernel_rfl) (by kernel_rfl) (by decide) u (by rw [starE]; exact h)

/-- The value of an error of the program, as the variable holds it. -/
abbrev errV (x : Addr) : Value := .iface 253 (.pointer (some x))
theorem of_sentinels {W : World} {l : List (String × DataW Unit)} (h : laidMet Tryz.prog ((nameN, Rows.laid_loop_example_g00619_impl_errNotRight) :: (nameF, Rows.laid_loop_example_g00619_impl_errTooFar) :: (nameQ, Rows.laid_loop_example_g00619_impl_errTooFast) :: l) W) :
    ∃ n f q : Addr, W.var? Tryz.prog nameN = some #[errV n] ∧ W.var? Tryz.prog nameF = some #[errV f] ∧ W.var? Tryz.prog nameQ = some #[errV q] ∧ ErrB W n f q := by
  have h2 := laidMet.tail h
  unfold Rows.laid_loop_example_g00619_impl_errNotRight Rows.laid_loop_example_g00619_impl_errTooFar at h
  unfold Rows.laid_loop_example_g00619_impl_errTooFar Rows.laid_loop_example_g00619_impl_errTooFast at h2
  obtain ⟨n, f, sn, sf, c0, c1, t0, t1, v0, v1, k0, e0, _, k1, e1, _, ne, b0, b1⟩ := laid_sentinels2 h gN gNt gF gFt Tryz.underlying147 rowE Tryz.underlying253 Tryz.underlying276 rfl rfl Tryz.underlying9 cellsE cellsS
  obtain ⟨f', q, sf', sq, c1', c2, t1', t2, v1', v2, k1', e1', _, k2, e2, _, ne', b1', b2⟩ := laid_sentinels2 h2 gF gFt gQ gQt Tryz.underlying147 rowE Tryz.underlying253 Tryz.underlying276 rfl rfl Tryz.underlying9 cellsE cellsS
  have hne : q ≠ n := by
    rintro rfl
    rw [k0] at k2
    have hs : sn = sq := by simpa using k2
    rw [hs, e2] at e0
    exact absurd e0 (by decide)
  refine ⟨n, f, q, v0, v1, v2, ⟨⟨?_, ?_, ?_⟩, ⟨t0, c0, b0⟩, ⟨t1, c1, b1⟩, ⟨t2, c2, b2⟩, Ne.symm ne, hne⟩⟩
  · simpa using World.var?_cell gN v0 0
  · simpa using World.var?_cell gF v1 0
  · simpa using World.var?_cell gQ v2 0
theorem gT : Tryz.prog.globalNamed "errors.errorType" = some 6 := by kernel_rfl
theorem rtE : (Tryz.prog.cutTypes.find? (·.1 == "internal/reflectlite.rtype")).map (·.2) = some 196 := by kernel_rfl
theorem oneRowE : ((List.range Tryz.prog.types.size).filter fun t => Tryz.prog.rowNamed t [101, 114, 114, 111, 114]) = [147] := by kernel_rfl
theorem of_handle {W : World} {l : List (String × DataW Unit)} (h : handlesMet Tryz.prog (("errors.errorType", Rows.laid_errors_errorType) :: l) W) : ErrT W := by
  obtain ⟨name, u, y, e1, e2, e3, e4, e5⟩ := h ("errors.errorType", Rows.laid_errors_errorType) (List.Mem.head _)
  have en : name = [101, 114, 114, 111, 114] := (Option.some.inj e1).symm
  subst en
  obtain rfl := Option.some.inj (rtE.symm.trans e2)
  have hm : y ∈ (List.range Tryz.prog.types.size).filter fun t => Tryz.prog.rowNamed t [101, 114, 114, 111, 114] := List.mem_filter.2 ⟨List.mem_range.2 e3, e4⟩
  rw [oneRowE] at hm
  obtain rfl := List.mem_singleton.1 hm
  have hh : typeHandle Tryz.prog 147 = .pointer (some ⟨7, 147, none⟩) := by kernel_rfl
  rw [hh] at e5
  unfold ErrT ty
  simpa using World.var?_cell gT e5 0

end Go.Proofs.YtdikhdfpcipdbaaGreatDoor.sane

