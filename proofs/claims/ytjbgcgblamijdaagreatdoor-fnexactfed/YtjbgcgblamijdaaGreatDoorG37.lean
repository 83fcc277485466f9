/- What the listed variables' condition gives: the three errors and the type 'error'. What the listed variables' condition gives chapter 15: the table, the three errors, the two ranges; named variables read again. -/
import Derived.Test.YtjbgcgblamijdaaGreatDoorRows
import Derived.Test.YtjbgcgblamijdaaGreatDoorG24
import Derived.LaidLaws
import Derived.LaidHandle
import Derived.Stop.LaidTwo
import Derived.LaidMore
import Derived.Stop.Joined
import Derived.Stop.LaidErr
import Derived.Test.YtjbgcgblamijdaaGreatDoorG29
import Derived.Lib.LaidTab
import Derived.ChangeVars
import Derived.WalkSmall
/- What the listed variables' condition gives: the three errors and the type 'error'. -/
namespace Go.Proofs.YtjbgcgblamijdaaGreatDoor.sane
open Go.ChangeShapes Go.WideShapes Go.ChangeAt Go.RowKit
open Go.Proofs.YtjbgcgblamijdaaGreatDoor.mem
set_option linter.unusedVariables false

abbrev nameN : String := "loop.example/g00619/impl.errNotRight"
abbrev nameF : String := "loop.example/g00619/impl.errTooFar"
abbrev nameQ : String := "loop.example/g00619/impl.errTooFast"
theorem gN : Tryz.prog.globalNamed nameN = some 3 := by kernel_rfl
theorem gF : Tryz.prog.globalNamed nameF = some 4 := by kernel_rfl
theorem gQ : Tryz.prog.globalNamed nameQ = some 5 := by kernel_rfl
theorem gNt : (Tryz.prog.globals[3]?).map (·.type) = some 170 := by kernel_rfl
theorem gFt : (Tryz.prog.globals[4]?).map (·.type) = some 170 := by kernel_rfl
theorem gQt : (Tryz.prog.globals[5]?).map (·.type) = some 170 := by kernel_rfl
theorem cellsE : Tryz.prog.cellsOf 299 = 1 := by kernel_rfl
theorem cellsS : Tryz.prog.cellsOf 9 = 1 := by kernel_rfl
theorem starE : "*" ++ "errors.errorString" = "*errors.errorString" := by decide
theorem rowE (u : TypeId) (h : Tryz.prog.typeName? 3 u = some "*errors.errorString") : u = 276 :=
  typeName_ptr_named (nm := "errors.errorString") (by rw [starE]; kernel_rfl) (by kernel_rfl) (by decide) u (by rw [starE]; exact h)

/-- The value of an error of the program, as the variable holds it. -/
abbrev errV (x : Addr) : Value := .iface 276 (.pointer (some x))
theorem of_sentinels {W : World} {l : List (String × DataW Unit)} (h : laidMet Tryz.prog ((nameN, Rows.laid_loop_example_g00619_impl_errNotRight) :: (nameF, Rows.laid_loop_example_g00619_impl_errTooFar) :: (nameQ, Rows.laid_loop_example_g00619_impl_errTooFast) :: l) W) :
    ∃ n f q : Addr, W.var? Tryz.prog nameN = some #[errV n] ∧ W.var? Tryz.prog nameF = some #[errV f] ∧ W.var? Tryz.prog nameQ = some #[errV q] ∧ ErrB W n f q := by
  have h2 := laidMet.tail h
  unfold Rows.laid_loop_example_g00619_impl_errNotRight Rows.laid_loop_example_g00619_impl_errTooFar at h
  unfold Rows.laid_loop_example_g00619_impl_errTooFar Rows.laid_loop_example_g00619_impl_errTooFast at h2
  obtain ⟨n, f, sn, sf, c0, c1, t0, t1, v0, v1, k0, e0, _, k1, e1, _, ne, b0, b1⟩ := laid_sentinels2 h gN gNt gF gFt Tryz.underlying170 rowE Tryz.underlying276 Tryz.underlying299 rfl rfl Tryz.underlying9 cellsE cellsS
  obtain ⟨f', q, sf', sq, c1', c2, t1', t2, v1', v2, k1', e1', _, k2, e2, _, ne', b1', b2⟩ := laid_sentinels2 h2 gF gFt gQ gQt Tryz.underlying170 rowE Tryz.underlying276 Tryz.underlying299 rfl rfl Tryz.underlying9 cellsE cellsS
  have hne : q ≠ n := by
    rintro rfl
    rw [k0] at k2
    have hs : sn = sq := by simpa using k2
    rw [hs, e2] at e0
    exact absurd e0 (by decide)
  refine ⟨n, f, q, v0, v1, v2, ⟨⟨?_, ?_, ?_⟩, ⟨t0, c0, b0⟩, ⟨t1, c1, b1⟩, ⟨t2, c2, b2⟩, Ne.symm ne, hne⟩⟩
  · simpa using World.var?_cell gN v0 0
  · simpa using World.var?_cell gF v1 0
  · simpa using World.var?_cell gQ v2 0
theorem gT : Tryz.prog.globalNamed "errors.errorType" = some 6 := by kernel_rfl
theorem rtE : (Tryz.prog.cutTypes.find? (·.1 == "internal/reflectlite.rtype")).map (·.2) = some 219 := by kernel_rfl
theorem oneRowE : ((List.range Tryz.prog.types.size).filter fun t => Tryz.prog.rowNamed t [101, 114, 114, 111, 114]) = [170] := by kernel_rfl
theorem of_handle {W : World} {l : List (String × DataW Unit)} (h : handlesMet Tryz.prog (("errors.errorType", Rows.laid_errors_errorType) :: l) W) : ErrT W := by
  obtain ⟨name, u, y, e1, e2, e3, e4, e5⟩ := h ("errors.errorType", Rows.laid_errors_errorType) (List.Mem.head _)
  have en : name = [101, 114, 114, 111, 114] := (Option.some.inj e1).symm
  subst en
  obtain rfl := Option.some.inj (rtE.symm.trans e2)
  have hm : y ∈ (List.range Tryz.prog.types.size).filter fun t => Tryz.prog.rowNamed t [101, 114, 114, 111, 114] := List.mem_filter.2 ⟨List.mem_range.2 e3, e4⟩
  rw [oneRowE] at hm
  obtain rfl := List.mem_singleton.1 hm
  have hh : typeHandle Tryz.prog 170 = .pointer (some ⟨7, 170, none⟩) := by kernel_rfl
  rw [hh] at e5
  unfold ErrT ty
  simpa using World.var?_cell gT e5 0

/-- Three named variables of interface types, read as tokens. -/
theorem vars_read3 {H : Type} (enc : TypeId × Value → H) {W : World} {x0 x1 x2 : Value} (h0 : W.var? Tryz.prog nameN = some #[x0]) (i0 : IsIface x0) (h1 : W.var? Tryz.prog nameF = some #[x1]) (i1 : IsIface x1) (h2 : W.var? Tryz.prog nameQ = some #[x2]) (i2 : IsIface x2) (sp : Nat → Bool) :
    DataW.TrodVars enc Tryz.prog W sp [nameN, nameF, nameQ] [tok enc x0, tok enc x1, tok enc x2] [.cell 3 0, .cell 4 0, .cell 5 0] :=
  ⟨_, _, #[x0], 1, [], [.cell 4 0, .cell 5 0], gN, gNt, h0, trod_held Tryz.underlying170 i0 0, ⟨_, _, #[x1], 1, [], [.cell 5 0], gF, gFt, h1, trod_held Tryz.underlying170 i1 0, ⟨_, _, #[x2], 1, [], [], gQ, gQt, h2, trod_held Tryz.underlying170 i2 0, rfl, rfl⟩, rfl⟩, rfl⟩
end Go.Proofs.YtjbgcgblamijdaaGreatDoor.sane

/- What the listed variables' condition gives chapter 15: the table, the three errors, the two ranges; named variables read again. -/
namespace Go.Proofs.YtjbgcgblamijdaaGreatDoor.se
open Go.ChangeShapes Go.WideShapes Go.ChangeAt Go.RowKit
open Go.Proofs.YtjbgcgblamijdaaGreatDoor.mem
set_option linter.unusedVariables false

theorem gVals : Tryz.prog.globalNamed "loop.example/g00619/impl.valuesOf" = some 0 := by kernel_rfl
theorem gValsT : (Tryz.prog.globals[0]?).map (·.type) = some 88 := by kernel_rfl
theorem gSr : Tryz.prog.globalNamed "loop.example/g00619/impl.speedRange" = some 1 := by kernel_rfl
theorem gSrT : (Tryz.prog.globals[1]?).map (·.type) = some 84 := by kernel_rfl
theorem gHr : Tryz.prog.globalNamed "loop.example/g00619/impl.heightRange" = some 2 := by kernel_rfl
theorem gHrT : (Tryz.prog.globals[2]?).map (·.type) = some 84 := by kernel_rfl
set_option maxRecDepth 100000 in
theorem range_of_head {W : World} {name : String} {rest : List (String × DataW Unit)} {g : Nat} {lo hi rt : Int} (hg : Tryz.prog.globalNamed name = some g) (hty : (Tryz.prog.globals[g]?).map (·.type) = some 84)
    (h : laidMet Tryz.prog ((name, .agg [.lit (.int .i64 lo), .lit (.int .i64 hi), .lit (.int .i64 rt)]) :: rest) W) : W.cell? ⟨g, 0, none⟩ = some (.int .i64 lo) ∧ W.cell? ⟨g, 1, none⟩ = some (.int .i64 hi) ∧ W.cell? ⟨g, 2, none⟩ = some (.int .i64 rt) := by
  obtain ⟨ps, ⟨g', t', cs, fuel, p, q, hg', ht', hvar, hd, _, _⟩, _⟩ := h
  obtain rfl := Option.some.inj (hg.symm.trans hg')
  obtain rfl := Option.some.inj (hty.symm.trans ht')
  have h2 : Tryz.prog.cellsOf 84 = 3 := by kernel_rfl
  have c1 : Tryz.prog.cellsOf 2 = 1 := by kernel_rfl
  obtain ⟨y0, y1, y2, n, ed, hl, t0, t1, t2⟩ := Go.Deep.trod_struct3 Tryz.underlying84 hd
  rw [h2] at hl
  obtain ⟨z, e0, f0, _⟩ := DataW.trod_int Tryz.underlying2 t0
  obtain ⟨z1, e1, f1, _⟩ := DataW.trod_int Tryz.underlying2 t1
  obtain ⟨z2, e2, f2, _⟩ := DataW.trod_int Tryz.underlying2 t2
  have r0 := World.var?_cell hg hvar 0
  have r1 := World.var?_cell hg hvar 1
  have r2 := World.var?_cell hg hvar 2
  obtain ⟨l⟩ := cs
  match l, hl with
  | [x, y, u], _ =>
    simp [c1] at e0 e1 e2
    subst e0 e1 e2
    rw [f0, f1, f2] at ed
    simp only [Prod.mk.injEq, DataW.agg.injEq, List.cons.injEq, DataW.lit.injEq, Lit.int.injEq, true_and, and_true] at ed
    obtain ⟨⟨rfl, rfl, rfl⟩, _⟩ := ed
    exact ⟨by simpa using r0, by simpa using r1, by simpa using r2⟩
theorem vals_of_head {W : World} {rest : List (String × DataW Unit)} (h : laidMet Tryz.prog (("loop.example/g00619/impl.valuesOf", Rows.laid_loop_example_g00619_impl_valuesOf) :: rest) W) : Vals W := by
  have hT : Lib.TabIs Tryz.prog W "loop.example/g00619/impl.valuesOf" .i64 [0, 3, 2, 6, 2] := Lib.tabIs_of_head (P := Tryz.prog) (k := .i64) (zs := [0, 3, 2, 6, 2]) gVals gValsT Tryz.underlying88 Tryz.underlying3 (by kernel_rfl) (by kernel_rfl) h
  have c : ∀ i, i < 5 → W.cell? ⟨0, i, none⟩ = some (.int .i64 (il.nth [0, 3, 2, 6, 2] i)) := fun i hi => hT.cell gVals i (by simpa using hi)
  exact ⟨sane.cell_lt (c 0 (by omega)), c⟩
theorem rgs_of_head {W : World} (h : laidMet Tryz.prog [("loop.example/g00619/impl.speedRange", Rows.laid_loop_example_g00619_impl_speedRange), ("loop.example/g00619/impl.heightRange", Rows.laid_loop_example_g00619_impl_heightRange)] W) : Rgs W := by
  obtain ⟨a, b, c⟩ := range_of_head gSr gSrT h
  obtain ⟨d, e, f⟩ := range_of_head gHr gHrT (laidMet.tail h)
  exact ⟨a, b, c, d, e, f⟩
/-- The condition of all seven, in their order. -/
theorem of_all {W : World} {l : List (String × DataW Unit)} (h : laidMet Tryz.prog [("loop.example/g00619/impl.valuesOf", Rows.laid_loop_example_g00619_impl_valuesOf), (sane.nameN, Rows.laid_loop_example_g00619_impl_errNotRight), (sane.nameF, Rows.laid_loop_example_g00619_impl_errTooFar), (sane.nameQ, Rows.laid_loop_example_g00619_impl_errTooFast), ("loop.example/g00619/impl.speedRange", Rows.laid_loop_example_g00619_impl_speedRange), ("loop.example/g00619/impl.heightRange", Rows.laid_loop_example_g00619_impl_heightRange)] W ∧ handlesMet Tryz.prog (("errors.errorType", Rows.laid_errors_errorType) :: l) W) :
    Vals W ∧ Rgs W ∧ sane.ErrT W ∧ ∃ n f q : Addr, sane.ErrB W n f q := by
  obtain ⟨h1, h2⟩ := h
  have h3 := laidMet.tail h1
  obtain ⟨n, f, q, _, _, _, hE⟩ := sane.of_sentinels h3
  exact ⟨vals_of_head h1, rgs_of_head (laidMet.tail (laidMet.tail (laidMet.tail h3))), sane.of_handle h2, n, f, q, hE⟩
/-- A name of a variable whose type can be read again. -/
def OkName (n : String) : Prop := ∃ t, (Tryz.prog.globalNamed n).bind (fun g => (Tryz.prog.globals[g]?).map (·.type)) = some t ∧ Tryz.prog.readableRec t = true ∧ t < Tryz.prog.types.size
theorem laidOut : laidOutB Tryz.prog = true := by kernel_rfl
/-- Named variables read as they did where nothing older has turned. -/
theorem vars_stay {H : Type} {enc : TypeId × Value → H} {W W' : World} (bel : Below W.heap.size W W') : ∀ {ns : List String} {gs : List (DataW H)} {ps : List MemPlace}, DataW.TrodVars enc Tryz.prog W (fun _ => true) ns gs ps → (∀ n, n ∈ ns → OkName n) → DataW.TrodVars enc Tryz.prog W' (fun b => decide (b < W.heap.size)) ns gs ps
  | [], [], _, h, _ => h
  | [], _ :: _, _, h, _ => h.elim
  | _ :: _, [], _, h, _ => h.elim
  | n :: ns, d :: ds, ps, ⟨g, t, cs, fuel, p, q, h1, h2, h3, h4, h5, e⟩, hok => by
    obtain ⟨t', e1, ho⟩ := hok n (List.Mem.head _)
    have hr : ∀ m, m ∈ ns → OkName m := fun m hm => hok m (List.Mem.tail _ hm)
    rw [h1] at e1
    simp only [Option.bind_some, h2, Option.some.injEq] at e1
    subst e1
    have hg : g < W.heap.size := by
      unfold World.var? at h3
      simp only [h1, Option.bind_some] at h3
      by_cases hs : g < W.heap.size
      · exact hs
      · rw [show W.heap[g]? = none from Array.getElem?_eq_none (by omega)] at h3
        cases h3
    obtain ⟨fuel', hd'⟩ := Below.trod laidOut ho.1 ho.2 (v := .agg cs) (⟨fuel, by simpa [Value.cells] using h4⟩ : DataW.Trod enc Tryz.prog W 0 (fun _ => true) true t (.agg cs) d p) bel (DataW.trod_lt fuel _ _ _ h4)
    exact ⟨g, t, cs, fuel', p, q, h1, h2, var?_below bel h1 hg h3, by simpa [Value.cells] using hd', vars_stay bel h5 hr, e⟩
theorem len_of {H : Type} {enc : TypeId × Value → H} {W : World} {sp : Nat → Bool} : ∀ {ns : List String} {gs : List (DataW H)} {ps : List MemPlace}, DataW.TrodVars enc Tryz.prog W sp ns gs ps → gs.length = ns.length
  | [], [], _, _ => rfl
  | [], _ :: _, _, h => h.elim
  | _ :: _, [], _, h => h.elim
  | _ :: _, _ :: _, _, ⟨_, _, _, _, _, _, _, _, _, _, h5, _⟩ => congrArg Nat.succ (len_of h5)
theorem six_of {α : Type} : ∀ {l : List α}, l.length = 6 → ∃ a b c d e f, l = [a, b, c, d, e, f]
  | [a, b, c, d, e, f], _ => ⟨a, b, c, d, e, f, rfl⟩
theorem six_ok : ∀ n, n ∈ ["loop.example/g00619/impl.valuesOf", "loop.example/g00619/impl.speedRange", "loop.example/g00619/impl.heightRange", sane.nameN, sane.nameF, sane.nameQ] → OkName n := by
  intro n hn
  simp only [List.mem_cons, List.not_mem_nil, or_false] at hn
  rcases hn with rfl | rfl | rfl | rfl | rfl | rfl
  · exact ⟨88, by kernel_rfl, by kernel_rfl, of_decide_eq_true (by kernel_rfl)⟩
  · exact ⟨84, by kernel_rfl, by kernel_rfl, of_decide_eq_true (by kernel_rfl)⟩
  · exact ⟨84, by kernel_rfl, by kernel_rfl, of_decide_eq_true (by kernel_rfl)⟩
  · exact ⟨170, by kernel_rfl, by kernel_rfl, of_decide_eq_true (by kernel_rfl)⟩
  · exact ⟨170, by kernel_rfl, by kernel_rfl, of_decide_eq_true (by kernel_rfl)⟩
  · exact ⟨170, by kernel_rfl, by kernel_rfl, of_decide_eq_true (by kernel_rfl)⟩
end Go.Proofs.YtjbgcgblamijdaaGreatDoor.se

