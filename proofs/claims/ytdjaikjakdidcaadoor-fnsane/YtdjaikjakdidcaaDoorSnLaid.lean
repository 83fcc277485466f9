/- What the listed variables' condition gives: the three errors and the type 'error'. -/
import Derived.Test.YtdjaikjakdidcaaDoorRows
import Derived.Test.YtdjaikjakdidcaaDoorSnTaken
import Derived.LaidLaws
import Derived.LaidHandle
import Derived.Stop.LaidTwo
import Derived.LaidMore
import Derived.Stop.Joined
import Derived.Stop.LaidErr
namespace Go.Proofs.YtdjaikjakdidcaaDoor.sane
open Go.ChangeShapes Go.WideShapes Go.ChangeAt Go.RowKit
open Go.Proofs.YtdjaikjakdidcaaDoor.mem
set_option linter.unusedVariables false

abbrev nameN : String := "loop.example/g00619/impl.errNotRight"
abbrev nameF : String := "loop.example/g00619/impl.errTooFar"
abbrev nameQ : String := "loop.example/g00619/impl.errTooFast"
theorem gN : Tryd.prog.globalNamed nameN = some 0 := by kernel_rfl
theorem gF : Tryd.prog.globalNamed nameF = some 1 := by kernel_rfl
theorem gQ : Tryd.prog.globalNamed nameQ = some 2 := by kernel_rfl
theorem gNt : (Tryd.prog.globals[0]?).map (·.type) = some 43 := by kernel_rfl
theorem gFt : (Tryd.prog.globals[1]?).map (·.type) = some 43 := by kernel_rfl
theorem gQt : (Tryd.prog.globals[2]?).map (·.type) = some 43 := by kernel_rfl
theorem cellsE : Tryd.prog.cellsOf 122 = 1 := by kernel_rfl
theorem cellsS : Tryd.prog.cellsOf 9 = 1 := by kernel_rfl
theorem starE : "*" ++ "errors.errorString" = "*errors.errorString" := by decide
theorem rowE (u : TypeId) (h : Tryd.prog.typeName? 3 u = some "*errors.errorString") : u = 100 :=
  typeName_ptr_named (nm := "errors.errorString") (by rw [starE]; kernel_rfl) (by kernel_rfl) (by decide) u (by rw [starE]; exact h)

/-- The value of an error of the program, as the variable holds it. -/
abbrev errV (x : Addr) : Value := .iface 100 (.pointer (some x))
theorem of_sentinels {W : World} (h : laidMet Tryd.prog [(nameN, Rows.laid_loop_example_g00619_impl_errNotRight), (nameF, Rows.laid_loop_example_g00619_impl_errTooFar), (nameQ, Rows.laid_loop_example_g00619_impl_errTooFast)] W) :
    ∃ n f q : Addr, W.var? Tryd.prog nameN = some #[errV n] ∧ W.var? Tryd.prog nameF = some #[errV f] ∧ W.var? Tryd.prog nameQ = some #[errV q] ∧ ErrB W n f q := by
  have h2 := laidMet.tail h
  unfold Rows.laid_loop_example_g00619_impl_errNotRight Rows.laid_loop_example_g00619_impl_errTooFar at h
  unfold Rows.laid_loop_example_g00619_impl_errTooFar Rows.laid_loop_example_g00619_impl_errTooFast at h2
  obtain ⟨n, f, sn, sf, c0, c1, t0, t1, v0, v1, k0, e0, _, k1, e1, _, ne, b0, b1⟩ := laid_sentinels2 h gN gNt gF gFt Tryd.underlying43 rowE Tryd.underlying100 Tryd.underlying122 rfl rfl Tryd.underlying9 cellsE cellsS
  obtain ⟨f', q, sf', sq, c1', c2, t1', t2, v1', v2, k1', e1', _, k2, e2, _, ne', b1', b2⟩ := laid_sentinels2 h2 gF gFt gQ gQt Tryd.underlying43 rowE Tryd.underlying100 Tryd.underlying122 rfl rfl Tryd.underlying9 cellsE cellsS
  have hne : q ≠ n := by
    rintro rfl
    rw [k0] at k2
    have hs : sn = sq := by simpa using k2
    rw [hs, e2] at e0
    exact absurd e0 (by decide)
  refine ⟨n, f, q, v0, v1, v2, ⟨⟨?_, ?_, ?_⟩, ⟨t0, c0, b0⟩, ⟨t1, c1, b1⟩, ⟨t2, c2, b2⟩, Ne.symm ne, hne⟩⟩
  · simpa using World.var?_cell gN v0 0
  · simpa using World.var?_cell gF v1 0
  · simpa using World.var?_cell gQ v2 0
theorem gT : Tryd.prog.globalNamed "errors.errorType" = some 3 := by kernel_rfl
theorem rtE : (Tryd.prog.cutTypes.find? (·.1 == "internal/reflectlite.rtype")).map (·.2) = some 83 := by kernel_rfl
theorem oneRowE : ((List.range Tryd.prog.types.size).filter fun t => Tryd.prog.rowNamed t [101, 114, 114, 111, 114]) = [43] := by kernel_rfl
theorem of_handle {W : World} {l : List (String × DataW Unit)} (h : handlesMet Tryd.prog (("errors.errorType", Rows.laid_errors_errorType) :: l) W) : ErrT W := by
  obtain ⟨name, u, y, e1, e2, e3, e4, e5⟩ := h ("errors.errorType", Rows.laid_errors_errorType) (List.Mem.head _)
  have en : name = [101, 114, 114, 111, 114] := (Option.some.inj e1).symm
  subst en
  obtain rfl := Option.some.inj (rtE.symm.trans e2)
  have hm : y ∈ (List.range Tryd.prog.types.size).filter fun t => Tryd.prog.rowNamed t [101, 114, 114, 111, 114] := List.mem_filter.2 ⟨List.mem_range.2 e3, e4⟩
  rw [oneRowE] at hm
  obtain rfl := List.mem_singleton.1 hm
  have hh : typeHandle Tryd.prog 43 = .pointer (some ⟨4, 43, none⟩) := by kernel_rfl
  rw [hh] at e5
  unfold ErrT ty
  simpa using World.var?_cell gT e5 0

/-- Three named variables of interface types, read as tokens. -/
theorem vars_read3 {H : Type} (enc : TypeId × Value → H) {W : World} {x0 x1 x2 : Value} (h0 : W.var? Tryd.prog nameN = some #[x0]) (i0 : IsIface x0) (h1 : W.var? Tryd.prog nameF = some #[x1]) (i1 : IsIface x1) (h2 : W.var? Tryd.prog nameQ = some #[x2]) (i2 : IsIface x2) (sp : Nat → Bool) :
    DataW.TrodVars enc Tryd.prog W sp [nameN, nameF, nameQ] [tok enc x0, tok enc x1, tok enc x2] [.cell 0 0, .cell 1 0, .cell 2 0] :=
  ⟨_, _, #[x0], 1, [], [.cell 1 0, .cell 2 0], gN, gNt, h0, trod_held Tryd.underlying43 i0 0, ⟨_, _, #[x1], 1, [], [.cell 2 0], gF, gFt, h1, trod_held Tryd.underlying43 i1 0, ⟨_, _, #[x2], 1, [], [], gQ, gQt, h2, trod_held Tryd.underlying43 i2 0, rfl, rfl⟩, rfl⟩, rfl⟩
end Go.Proofs.YtdjaikjakdidcaaDoor.sane
