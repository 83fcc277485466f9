/- What the listed variables' condition gives chapter 16: the table and the error; named variables read again. -/
import Derived.Test.YtnkimjmpjnhlnaaDoorRows
import Derived.Test.YtnkimjmpjnhlnaaDoorBrMust
import Derived.LaidLaws
import Derived.LaidHandle
import Derived.Stop.LaidTwo
import Derived.LaidMore
import Derived.Stop.Joined
import Derived.Stop.LaidErr
import Derived.Lib.LaidTab
import Derived.ChangeVars
import Derived.WalkSmall
import Derived.Below
namespace Go.Proofs.YtnkimjmpjnhlnaaDoor.br
open Go.ChangeShapes Go.WideShapes Go.ChangeAt Go.RowKit
open Go.Proofs.YtnkimjmpjnhlnaaDoor.mem
set_option linter.unusedVariables false

abbrev nameV : String := "loop.example/g00619/impl.valuesOf"
abbrev nameC : String := "loop.example/g00619/impl.errCannotBe"
theorem gVals : Tryd.prog.globalNamed nameV = some 0 := by kernel_rfl
theorem gValsT : (Tryd.prog.globals[0]?).map (·.type) = some 83 := by kernel_rfl
theorem gC : Tryd.prog.globalNamed nameC = some 1 := by kernel_rfl
theorem gCt : (Tryd.prog.globals[1]?).map (·.type) = some 93 := by kernel_rfl
theorem cellsE : Tryd.prog.cellsOf 126 = 1 := by kernel_rfl
theorem cellsS : Tryd.prog.cellsOf 9 = 1 := by kernel_rfl
theorem starE : "*" ++ "errors.errorString" = "*errors.errorString" := by decide
theorem rowE (u : TypeId) (h : Tryd.prog.typeName? 3 u = some "*errors.errorString") : u = 108 :=
  typeName_ptr_named (nm := "errors.errorString") (by rw [starE]; kernel_rfl) (by kernel_rfl) (by decide) u (by rw [starE]; exact h)
theorem lt_cell {w : World} {x : Addr} {v : Value} (h : w.cell? x = some v) : x.block < w.heap.size := by
  rcases Nat.lt_or_ge x.block w.heap.size with h' | h'
  · exact h'
  · simp [World.cell?, Array.getElem?_eq_none h'] at h
theorem vals_head {W : World} {rest : List (String × DataW Unit)} (h : laidMet Tryd.prog ((nameV, Rows.laid_loop_example_g00619_impl_valuesOf) :: rest) W) : se.Vals W := by
  have hT : Lib.TabIs Tryd.prog W "loop.example/g00619/impl.valuesOf" .i64 [0, 3, 2, 6, 2] := Lib.tabIs_of_head (P := Tryd.prog) (k := .i64) (zs := [0, 3, 2, 6, 2]) gVals gValsT Tryd.underlying83 Tryd.underlying3 (by kernel_rfl) (by kernel_rfl) h
  have c : ∀ i, i < 5 → W.cell? ⟨0, i, none⟩ = some (.int .i64 (il.nth [0, 3, 2, 6, 2] i)) := fun i hi => hT.cell gVals i (by simpa using hi)
  exact ⟨lt_cell (c 0 (by omega)), c⟩
theorem err_head {W : World} {rest : List (String × DataW Unit)} (h : laidMet Tryd.prog ((nameC, Rows.laid_loop_example_g00619_impl_errCannotBe) :: rest) W) : ∃ x : Addr, Err W 108 (.pointer (some x)) := by
  unfold Rows.laid_loop_example_g00619_impl_errCannotBe at h
  obtain ⟨x, s, hv, _, _, _⟩ := laid_sentinel h gC gCt Tryd.underlying93 rowE Tryd.underlying108 Tryd.underlying126 rfl rfl Tryd.underlying9 cellsE cellsS
  have c : W.cell? ⟨1, 0, none⟩ = some (.iface 108 (.pointer (some x))) := by simpa using World.var?_cell gC hv 0
  exact ⟨x, lt_cell c, c⟩
/-- The condition of both, in their order. -/
theorem of_two {W : World} (h : laidMet Tryd.prog [(nameV, Rows.laid_loop_example_g00619_impl_valuesOf), (nameC, Rows.laid_loop_example_g00619_impl_errCannotBe)] W) : se.Vals W ∧ ∃ (u : TypeId) (pv : Value), Err W u pv := by
  obtain ⟨x, hx⟩ := err_head (laidMet.tail h)
  exact ⟨vals_head h, _, _, hx⟩
/-- A name of a variable whose type can be read again. -/
def OkName (n : String) : Prop := ∃ t, (Tryd.prog.globalNamed n).bind (fun g => (Tryd.prog.globals[g]?).map (·.type)) = some t ∧ Tryd.prog.readableRec t = true ∧ t < Tryd.prog.types.size
theorem laidOut : laidOutB Tryd.prog = true := by kernel_rfl
/-- Named variables read as they did where nothing older has turned. -/
theorem vars_stay {H : Type} {enc : TypeId × Value → H} {W W' : World} (bel : Below W.heap.size W W') : ∀ {ns : List String} {gs : List (DataW H)} {ps : List MemPlace}, DataW.TrodVars enc Tryd.prog W (fun _ => true) ns gs ps → (∀ n, n ∈ ns → OkName n) → DataW.TrodVars enc Tryd.prog W' (fun b => decide (b < W.heap.size)) ns gs ps
  | [], [], _, h, _ => h
  | [], _ :: _, _, h, _ => h.elim
  | _ :: _, [], _, h, _ => h.elim
  | n :: ns, d :: ds, ps, ⟨g, t, cs, fuel, p, q, h1, h2, h3, h4, h5, e⟩, hok => by
    obtain ⟨t', e1, ho⟩ := hok n (List.Mem.head _)
    have hr : ∀ m, m ∈ ns → OkName m := fun m hm => hok m (List.Mem.tail _ hm)
    rw [h1] at e1
    simp only [Option.bind_some, h2, Option.some.injEq] at e1
    subst e1
    have hg : g < W.heap.size := by
      unfold World.var? at h3
      simp only [h1, Option.bind_some] at h3
      by_cases hs : g < W.heap.size
      · exact hs
      · rw [show W.heap[g]? = none from Array.getElem?_eq_none (by omega)] at h3
        cases h3
    obtain ⟨fuel', hd'⟩ := Below.trod laidOut ho.1 ho.2 (v := .agg cs) (⟨fuel, by simpa [Value.cells] using h4⟩ : DataW.Trod enc Tryd.prog W 0 (fun _ => true) true t (.agg cs) d p) bel (DataW.trod_lt fuel _ _ _ h4)
    exact ⟨g, t, cs, fuel', p, q, h1, h2, var?_below bel h1 hg h3, by simpa [Value.cells] using hd', vars_stay bel h5 hr, e⟩
theorem len_of {H : Type} {enc : TypeId × Value → H} {W : World} {sp : Nat → Bool} : ∀ {ns : List String} {gs : List (DataW H)} {ps : List MemPlace}, DataW.TrodVars enc Tryd.prog W sp ns gs ps → gs.length = ns.length
  | [], [], _, _ => rfl
  | [], _ :: _, _, h => h.elim
  | _ :: _, [], _, h => h.elim
  | _ :: _, _ :: _, _, ⟨_, _, _, _, _, _, _, _, _, _, h5, _⟩ => congrArg Nat.succ (len_of h5)
theorem two_of {α : Type} : ∀ {l : List α}, l.length = 2 → ∃ a b, l = [a, b]
  | [a, b], _ => ⟨a, b, rfl⟩
theorem two_ok : ∀ n, n ∈ [nameC, nameV] → OkName n := by
  intro n hn
  simp only [List.mem_cons, List.not_mem_nil, or_false] at hn
  rcases hn with rfl | rfl
  · exact ⟨93, by kernel_rfl, by kernel_rfl, of_decide_eq_true (by kernel_rfl)⟩
  · exact ⟨83, by kernel_rfl, by kernel_rfl, of_decide_eq_true (by kernel_rfl)⟩
end Go.Proofs.YtnkimjmpjnhlnaaDoor.br
