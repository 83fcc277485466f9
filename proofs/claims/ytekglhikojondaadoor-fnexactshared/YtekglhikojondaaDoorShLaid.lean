/- What the listed variable's condition gives: the six rows of two weights; and a demand that came in. -/
import Derived.Test.YtekglhikojondaaDoorSh
import Derived.Lib.LaidTab
import Derived.Lib.LaidU8
import Derived.Deep.Strs
import Derived.Deep.DeepCutAuto
namespace Go.Proofs.YtekglhikojondaaDoor.sh
open Go.ChangeShapes Go.WideShapes Go.ChangeAt Go.RowKit
open Go.Proofs.YtekglhikojondaaDoor.mem
open Go.Proofs.YtekglhikojondaaDoor.tab (Ret)
set_option linter.unusedVariables false

theorem cellsInt : Tryd.prog.cellsOf 2 = 1 := by kernel_rfl
theorem cellsRow : Tryd.prog.cellsOf 57 = 2 := by kernel_rfl
theorem rows_at {H : Type} {ds : List (DataW H)} (h : ds = [Lib.tabData .i64 [2, 0], Lib.tabData .i64 [1, 2], Lib.tabData .i64 [-1, 2], Lib.tabData .i64 [-2, 0], Lib.tabData .i64 [-1, -2], Lib.tabData .i64 [1, -2]]) {k : Nat} (hk : k < 6) : ds[k]? = some (Lib.tabData .i64 [tR k, tP k]) := by
  subst h
  rcases six hk with rfl | rfl | rfl | rfl | rfl | rfl <;> rfl

theorem wts_of_head {W : World} {rest : List (String × DataW Unit)} (hg : Tryd.prog.globalNamed "loop.example/g00619/impl.fanWeights" = some 0) (hty : (Tryd.prog.globals[0]?).map (·.type) = some 58)
    (h : laidMet Tryd.prog (("loop.example/g00619/impl.fanWeights", Rows.laid_loop_example_g00619_impl_fanWeights) :: rest) W) : Wts W := by
  obtain ⟨ps, ⟨g', t', cs, fuel, p, q, hg', ht', hvar, hd, _, _⟩, _⟩ := h
  obtain rfl := Option.some.inj (hg.symm.trans hg')
  obtain rfl := Option.some.inj (hty.symm.trans ht')
  have key : ∀ k, k < 6 → W.cell? ⟨0, k * 2, none⟩ = some (.int .i64 (tR k)) ∧ W.cell? ⟨0, k * 2 + 1, none⟩ = some (.int .i64 (tP k)) := by
    intro k hk
    obtain ⟨fuel', d, q, hdi, he⟩ := Lib.array_elem Tryd.underlying58 hd k hk
    obtain rfl := Option.some.inj ((rows_at rfl hk).symm.trans hdi)
    rw [cellsRow] at he
    have hcs := Lib.cells_of_tab Tryd.underlying57 Tryd.underlying2 cellsInt cellsRow he
    have e0 := congrArg (·[0]?) hcs
    have e1 := congrArg (·[1]?) hcs
    simp only [List.getElem?_take, List.getElem?_drop] at e0 e1
    constructor
    · rw [World.var?_cell hg hvar (k * 2), ← Array.getElem?_toList]
      simpa [Nat.mul_comm] using e0
    · rw [World.var?_cell hg hvar (k * 2 + 1), ← Array.getElem?_toList]
      simpa [Nat.mul_comm] using e1
  refine ⟨?_, key⟩
  have c0 := (key 0 (by omega)).1
  by_cases hs : 0 < W.heap.size
  · exact hs
  · have hn : W.heap[0]? = none := Array.getElem?_eq_none (by omega)
    simp [World.cell?, hn] at c0

set_option maxRecDepth 100000 in
theorem open_demand {H : Type} {enc : TypeId × Value → H} {w : World} {r : Reach} {b0 base : Nat} {spare : Nat → Bool} {held : Bool} {v : Value} {d : DataW H} {p : List MemPlace} (hval : Value.okWide Tryd.prog w r b0 41 v)
    (h : DataW.Trod enc Tryd.prog w base spare held 41 v d p) : ∃ a b c : Int, v = .agg #[.int .i64 a, .int .i64 b, .int .i64 c] ∧ (Lit.int .i64 a).wf = true ∧ (Lit.int .i64 b).wf = true ∧ (Lit.int .i64 c).wf = true := by
  obtain ⟨cs, rfl, hs⟩ := okWide_struct Tryd.underlying41 hval
  obtain ⟨fuel, hf⟩ := h
  have h2 : Tryd.prog.cellsOf 41 = 3 := by kernel_rfl
  rw [h2] at hs
  obtain ⟨y0, y1, y2, n, _, hl, t0, t1, t2⟩ := Go.Deep.trod_struct3 Tryd.underlying41 hf
  obtain ⟨z, e0, _, hw⟩ := DataW.trod_int Tryd.underlying2 t0
  obtain ⟨z1, e1, _, hw1⟩ := DataW.trod_int Tryd.underlying2 t1
  obtain ⟨z2, e2, _, hw2⟩ := DataW.trod_int Tryd.underlying2 t2
  have c1 : Tryd.prog.cellsOf 2 = 1 := by kernel_rfl
  obtain ⟨l⟩ := cs
  match l, hs with
  | [x, y, u], _ =>
    simp [Value.cells, c1] at e0 e1 e2
    refine ⟨z, z1, z2, ?_, hw, hw1, hw2⟩
    rw [e0, e1, e2]

/-- A demand comes back; of what was there nothing is another. -/
def RetD (l r p : Int) (w : World) (e : Ending) (w' : World) : Prop := e = .returned (dem l r p) ∧ w.grownBy w' none

set_option maxHeartbeats 1000000 in
theorem toDemand (l r p : Int) (w : World) : Calls Tryd.prog 28 #[dem l r p] w (RetD l r p w) := by
  go_enter Tryd.func28, Tryd.ntmps28
  go_wp2
  exact bodyPost_ret (v := dem l r p) (by simp [results, Tryd.results28, go_sem]) rfl ⟨rfl, gr_alloc (gr_alloc (World.grownBy_alloc _ _ _) _) _⟩

set_option maxHeartbeats 1000000 in
theorem eqDemand (l r p : Int) (w : World) : Calls Tryd.prog 33 #[dem l r p, dem l r p] w (Ret (.bool true) w) := by
  go_enter Tryd.func33, Tryd.ntmps33
  go_wp2
  go_ret
  exact ⟨rfl, gr_alloc (World.grownBy_alloc _ _ _) _⟩
end Go.Proofs.YtekglhikojondaaDoor.sh
