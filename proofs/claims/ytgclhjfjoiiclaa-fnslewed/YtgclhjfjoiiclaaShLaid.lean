/- What the listed variable's condition gives: the six rows of two weights; and a demand that came in. -/
import Derived.Test.YtgclhjfjoiiclaaSh
import Derived.Lib.LaidTab
import Derived.Lib.LaidU8
import Derived.Deep.Strs
import Derived.Deep.DeepCutAuto
namespace Go.Proofs.Ytgclhjfjoiiclaa.sh
open Go.ChangeShapes Go.WideShapes Go.ChangeAt Go.RowKit
open Go.Proofs.Ytgclhjfjoiiclaa.mem
open Go.Proofs.Ytgclhjfjoiiclaa.tab (Ret)
set_option linter.unusedVariables false

theorem cellsInt : Try.prog.cellsOf 2 = 1 := by kernel_rfl
theorem cellsRow : Try.prog.cellsOf 100 = 2 := by kernel_rfl
theorem rows_at {H : Type} {ds : List (DataW H)} (h : ds = [Lib.tabData .i64 [2, 0], Lib.tabData .i64 [1, 2], Lib.tabData .i64 [-1, 2], Lib.tabData .i64 [-2, 0], Lib.tabData .i64 [-1, -2], Lib.tabData .i64 [1, -2]]) {k : Nat} (hk : k < 6) : ds[k]? = some (Lib.tabData .i64 [tR k, tP k]) := by
  subst h
  rcases six hk with rfl | rfl | rfl | rfl | rfl | rfl <;> rfl

set_option maxRecDepth 100000 in
theorem open_demand {H : Type} {enc : TypeId × Value → H} {w : World} {r : Reach} {b0 base : Nat} {spare : Nat → Bool} {held : Bool} {v : Value} {d : DataW H} {p : List MemPlace} (hval : Value.okWide Try.prog w r b0 39 v)
    (h : DataW.Trod enc Try.prog w base spare held 39 v d p) : ∃ a b c : Int, v = .agg #[.int .i64 a, .int .i64 b, .int .i64 c] ∧ (Lit.int .i64 a).wf = true ∧ (Lit.int .i64 b).wf = true ∧ (Lit.int .i64 c).wf = true := by
  obtain ⟨cs, rfl, hs⟩ := okWide_struct Try.underlying39 hval
  obtain ⟨fuel, hf⟩ := h
  have h2 : Try.prog.cellsOf 39 = 3 := by kernel_rfl
  rw [h2] at hs
  obtain ⟨y0, y1, y2, n, _, hl, t0, t1, t2⟩ := Go.Deep.trod_struct3 Try.underlying39 hf
  obtain ⟨z, e0, _, hw⟩ := DataW.trod_int Try.underlying2 t0
  obtain ⟨z1, e1, _, hw1⟩ := DataW.trod_int Try.underlying2 t1
  obtain ⟨z2, e2, _, hw2⟩ := DataW.trod_int Try.underlying2 t2
  have c1 : Try.prog.cellsOf 2 = 1 := by kernel_rfl
  obtain ⟨l⟩ := cs
  match l, hs with
  | [x, y, u], _ =>
    simp [Value.cells, c1] at e0 e1 e2
    refine ⟨z, z1, z2, ?_, hw, hw1, hw2⟩
    rw [e0, e1, e2]

/-- A demand comes back; of what was there nothing is another. -/
def RetD (l r p : Int) (w : World) (e : Ending) (w' : World) : Prop := e = .returned (dem l r p) ∧ w.grownBy w' none

set_option maxHeartbeats 1000000 in
theorem toDemand (l r p : Int) (w : World) : Calls Try.prog 24 #[dem l r p] w (RetD l r p w) := by
  go_enter Try.func24, Try.ntmps24
  go_wp2
  exact bodyPost_ret (v := dem l r p) (by simp [results, Try.results24, go_sem]) rfl ⟨rfl, gr_alloc (gr_alloc (World.grownBy_alloc _ _ _) _) _⟩

set_option maxHeartbeats 1000000 in
theorem eqDemand (l r p : Int) (w : World) : Calls Try.prog 25 #[dem l r p, dem l r p] w (Ret (.bool true) w) := by
  go_enter Try.func25, Try.ntmps25
  go_wp2
  go_ret
  exact ⟨rfl, gr_alloc (World.grownBy_alloc _ _ _) _⟩
end Go.Proofs.Ytgclhjfjoiiclaa.sh
