/- What the listed variables' condition gives chapter 15: the table, the three errors, the two ranges; named variables read again. -/
import Derived.Test.YtdikhdfpcipdbaaGreatDoorSnLaid
import Derived.Test.YtdikhdfpcipdbaaGreatDoorSeTold
import Derived.Lib.LaidTab
import Derived.ChangeVars
import Derived.WalkSmall
namespace Go.Proofs.YtdikhdfpcipdbaaGreatDoor.se
open Go.ChangeShapes Go.WideShapes Go.ChangeAt Go.RowKit
open Go.Proofs.YtdikhdfpcipdbaaGreatDoor.mem
set_option linter.unusedVariables false

theorem gVals : Tryz.prog.globalNamed "loop.example/g00619/impl.valuesOf" = some 0 := by kernel_rfl
theorem gValsT : (Tryz.prog.globals[0]?).map (·.type) = some 76 := by kernel_rfl
theorem gSr : Tryz.prog.globalNamed "loop.example/g00619/impl.speedRange" = some 1 := by kernel_rfl
theorem gSrT : (Tryz.prog.globals[1]?).map (·.type) = some 72 := by kernel_rfl
theorem gHr : Tryz.prog.globalNamed "loop.example/g00619/impl.heightRange" = some 2 := by kernel_rfl
theorem gHrT : (Tryz.prog.globals[2]?).map (·.type) = some 72 := by kernel_rfl
set_option maxRecDepth 100000 in
theorem range_of_head {W : World} {name : String} {rest : List (String × DataW Unit)} {g : Nat} {lo hi rt : Int} (hg : Tryz.prog.globalNamed name = some g) (hty : (Tryz.prog.globals[g]?).map (·.type) = some 72)
    (h : laidMet Tryz.prog ((name, .agg [.lit (.int .i64 lo), .lit (.int .i64 hi), .lit (.int .i64 rt)]) :: rest) W) : W.cell? ⟨g, 0, none⟩ = some (.int .i64 lo) ∧ W.cell? ⟨g, 1, none⟩ = some (.int .i64 hi) ∧ W.cell? ⟨g, 2, none⟩ = some (.int .i64 rt) := by
  obtain ⟨ps, ⟨g', t', cs, fuel, p, q, hg', ht', hvar, hd, _, _⟩, _⟩ := h
  obtain rfl := Option.some.inj (hg.symm.trans hg')
  obtain rfl := Option.some.inj (hty.symm.trans ht')
  have h2 : Tryz.prog.cellsOf 72 = 3 := by kernel_rfl
  have c1 : Tryz.prog.cellsOf 2 = 1 := by kernel_rfl
  obtain ⟨y0, y1, y2, n, ed, hl, t0, t1, t2⟩ := Go.Deep.trod_struct3 Tryz.underlying72 hd
  rw [h2] at hl
  obtain ⟨z, e0, f0, _⟩ := DataW.trod_int Tryz.underlying2 t0
  obtain ⟨z1, e1, f1, _⟩ := DataW.trod_int Tryz.underlying2 t1
  obtain ⟨z2, e2, f2, _⟩ := DataW.trod_int Tryz.underlying2 t2
  have r0 := World.var?_cell hg hvar 0
  have r1 := World.var?_cell hg hvar 1
  have r2 := World.var?_cell hg hvar 2
  obtain ⟨l⟩ := cs
  match l, hl with
  | [x, y, u], _ =>
    simp [c1] at e0 e1 e2
    subst e0 e1 e2
    rw [f0, f1, f2] at ed
    simp only [Prod.mk.injEq, DataW.agg.injEq, List.cons.injEq, DataW.lit.injEq, Lit.int.injEq, true_and, and_true] at ed
    obtain ⟨⟨rfl, rfl, rfl⟩, _⟩ := ed
    exact ⟨by simpa using r0, by simpa using r1, by simpa using r2⟩
theorem vals_of_head {W : World} {rest : List (String × DataW Unit)} (h : laidMet Tryz.prog (("loop.example/g00619/impl.valuesOf", Rows.laid_loop_example_g00619_impl_valuesOf) :: rest) W) : Vals W := by
  have hT : Lib.TabIs Tryz.prog W "loop.example/g00619/impl.valuesOf" .i64 [0, 3, 2, 6, 2] := Lib.tabIs_of_head (P := Tryz.prog) (k := .i64) (zs := [0, 3, 2, 6, 2]) gVals gValsT Tryz.underlying76 Tryz.underlying3 (by kernel_rfl) (by kernel_rfl) h
  have c : ∀ i, i < 5 → W.cell? ⟨0, i, none⟩ = some (.int .i64 (il.nth [0, 3, 2, 6, 2] i)) := fun i hi => hT.cell gVals i (by simpa using hi)
  exact ⟨sane.cell_lt (c 0 (by omega)), c⟩
theorem rgs_of_head {W : World} (h : laidMet Tryz.prog [("loop.example/g00619/impl.speedRange", Rows.laid_loop_example_g00619_impl_speedRange), ("loop.example/g00619/impl.heightRange", Rows.laid_loop_example_g00619_impl_heightRange)] W) : Rgs W := by
  obtain ⟨a, b, c⟩ := range_of_head gSr gSrT h
  obtain ⟨d, e, f⟩ := range_of_head gHr gHrT (laidMet.tail h)
  exact ⟨a, b, c, d, e, f⟩
/-- The condition of all seven, in their order. -/
theorem of_all {W : World} {l : List (String × DataW Unit)} (h : laidMet Tryz.prog [("loop.example/g00619/impl.valuesOf", Rows.laid_loop_example_g00619_impl_valuesOf), (sane.nameN, Rows.laid_loop_example_g00619_impl_errNotRight), (sane.nameF, Rows.laid_loop_example_g00619_impl_errTooFar), (sane.nameQ, Rows.laid_loop_example_g00619_impl_errTooFast), ("loop.example/g00619/impl.speedRange", Rows.laid_loop_example_g00619_impl_speedRange), ("loop.example/g00619/impl.heightRange", Rows.laid_loop_example_g00619_impl_heightRange)] W ∧ handlesMet Tryz.prog (("errors.errorType", Rows.laid_errors_errorType) :: l) W) :
    Vals W ∧ Rgs W ∧ sane.ErrT W ∧ ∃ n f q : Addr, sane.ErrB W n f q := by
  obtain ⟨h1, h2⟩ := h
  have h3 := laidMet.tail h1
  obtain ⟨n, f, q, _, _, _, hE⟩ := sane.of_sentinels h3
  exact ⟨vals_of_head h1, rgs_of_head (laidMet.tail (laidMet.tail (laidMet.tail h3))), sane.of_handle h2, n, f, q, hE⟩
/-- A name of a variable whose type can be read again. -/
def OkName (n : String) : Prop := ∃ t, (Tryz.prog.globalNamed n).bind (fun g => (Tryz.prog.globals[g]?).map (·.type)) = some t ∧ Tryz.prog.readableRec t = true ∧ t < Tryz.prog.types.size
theorem laidOut : laidOutB Tryz.prog = true := by kernel_rfl
/-- Named variables read as they did where nothing older has turned. -/
theorem vars_stay {H : Type} {enc : TypeId × Value → H} {W W' : World} (bel : Below W.heap.size W W') : ∀ {ns : List String} {gs : List (DataW H)} {ps : List MemPlace}, DataW.TrodVars enc Tryz.prog W (fun _ => true) ns gs ps → (∀ n, n ∈ ns → OkName n) → DataW.TrodVars enc Tryz.prog W' (fun b => decide (b < W.heap.size)) ns gs ps
  | [], [], _, h, _ => h
  | [], _ :: _, _, h, _ => h.elim
  | _ :: _, [], _, h, _ => h.elim
  | n :: ns, d :: ds, ps, ⟨g, t, cs, fuel, p, q, h1, h2, h3, h4, h5, e⟩, hok => by
    obtain ⟨t', e1, ho⟩ := hok n (List.Mem.head _)
    have hr : ∀ m, m ∈ ns → OkName m := fun m hm => hok m (List.Mem.tail _ hm)
    rw [h1] at e1
    simp only [Option.bind_some, h2, Option.some.injEq] at e1
    subst e1
    have hg : g < W.heap.size := by
      unfold World.var? at h3
      simp only [h1, Option.bind_some] at h3
      by_cases hs : g < W.heap.size
      · exact hs
      · rw [show W.heap[g]? = none from Array.getElem?_eq_none (by omega)] at h3
        cases h3
    obtain ⟨fuel', hd'⟩ := Below.trod laidOut ho.1 ho.2 (v := .agg cs) (⟨fuel, by simpa [Value.cells] using h4⟩ : DataW.Trod enc Tryz.prog W 0 (fun _ => true) true t (.agg cs) d p) bel (DataW.trod_lt fuel _ _ _ h4)
    exact ⟨g, t, cs, fuel', p, q, h1, h2, var?_below bel h1 hg h3, by simpa [Value.cells] using hd', vars_stay bel h5 hr, e⟩
theorem len_of {H : Type} {enc : TypeId × Value → H} {W : World} {sp : Nat → Bool} : ∀ {ns : List String} {gs : List (DataW H)} {ps : List MemPlace}, DataW.TrodVars enc Tryz.prog W sp ns gs ps → gs.length = ns.length
  | [], [], _, _ => rfl
  | [], _ :: _, _, h => h.elim
  | _ :: _, [], _, h => h.elim
  | _ :: _, _ :: _, _, ⟨_, _, _, _, _, _, _, _, _, _, h5, _⟩ => congrArg Nat.succ (len_of h5)
theorem six_of {α : Type} : ∀ {l : List α}, l.length = 6 → ∃ a b c d e f, l = [a, b, c, d, e, f]
  | [a, b, c, d, e, f], _ => ⟨a, b, c, d, e, f, rfl⟩
theorem six_ok : ∀ n, n ∈ ["loop.example/g00619/impl.valuesOf", "loop.example/g00619/impl.speedRange", "loop.example/g00619/impl.heightRange", sane.nameN, sane.nameF, sane.nameQ] → OkName n := by
  intro n hn
  simp only [List.mem_cons, List.not_mem_nil, or_false] at hn
  rcases hn with rfl | rfl | rfl | rfl | rfl | rfl
  · exact ⟨76, by kernel_rfl, by kernel_rfl, of_decide_eq_true (by kernel_rfl)⟩
  · exact ⟨72, by kernel_rfl, by kernel_rfl, of_decide_eq_true (by kernel_rfl)⟩
  · exact ⟨72, by kernel_rfl, by kernel_rfl, of_decide_eq_true (by kernel_rfl)⟩
  · exact ⟨147, by kernel_rfl, by kernel_rfl, of_decide_eq_true (by kernel_rfl)⟩
  · exact ⟨147, by kernel_rfl, by kernel_rfl, of_decide_eq_true (by kernel_rfl)⟩
  · exact ⟨147, by kernel_rfl, by kernel_rfl, of_decide_eq_true (by kernel_rfl)⟩
end Go.Proofs.YtdikhdfpcipdbaaGreatDoor.se
