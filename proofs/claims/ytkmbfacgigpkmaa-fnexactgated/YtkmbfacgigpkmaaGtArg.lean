/- What came in: a gate; read, copied into new memory, compared. -/
import Derived.Test.YtkmbfacgigpkmaaGt
import Derived.Test.YtkmbfacgigpkmaaMdArg
namespace Go.Proofs.Ytkmbfacgigpkmaa.gt
open Go.ChangeShapes Go.WideShapes Go.ChangeAt Go.RowKit
open Go.Proofs.Ytkmbfacgigpkmaa.nums Go.Proofs.Ytkmbfacgigpkmaa.mem
open Go.Proofs.Ytkmbfacgigpkmaa.tab (Ret quiet_w)
set_option linter.unusedVariables false

theorem open_gate {H : Type} {enc : TypeId × Value → H} {w : World} {r : Reach} {b0 base : Nat} {spare : Nat → Bool} {held : Bool} {v : Value} {d : DataW H} {p : List MemPlace}
    (hval : Value.okWide Try.prog w r b0 34 v) (h : DataW.Trod enc Try.prog w base spare held 34 v d p) : ∃ g : G, v = gv g := by
  obtain ⟨cs, rfl, hs⟩ := okWide_struct Try.underlying34 hval
  obtain ⟨fuel, hf⟩ := h
  have h2 : Try.prog.cellsOf 34 = 2 := by kernel_rfl
  rw [h2] at hs
  obtain ⟨y0, y1, n, _, hl, t0, t1⟩ := trod_struct2 Try.underlying34 hf
  obtain ⟨z, e0, _, _⟩ := DataW.trod_int Try.underlying2 t0
  obtain ⟨o, e1, _⟩ := DataW.trod_bool Try.underlying4 t1
  have c1 : Try.prog.cellsOf 2 = 1 := by kernel_rfl
  have c2 : Try.prog.cellsOf 4 = 1 := by kernel_rfl
  obtain ⟨l⟩ := cs
  match l, hs with
  | [x, y], _ =>
    simp [Value.cells, c1, c2] at e0 e1
    refine ⟨(z, o), ?_⟩
    rw [e0, e1]

set_option maxHeartbeats 1000000 in
theorem toGate (g : G) (w : World) : Calls Try.prog 14 #[gv g] w (Ret (gv g) w) := by
  go_enter Try.func14, Try.ntmps14
  go_wp2
  exact bodyPost_ret (v := gv g) (by simp [results, Try.results14, go_sem]) rfl ⟨rfl, gr_alloc (gr_alloc (World.grownBy_alloc _ _ _) _) _⟩

theorem eqGate (g : G) (w : World) : Calls Try.prog 16 #[gv g, gv g] w (Ret (.bool true) w) := by
  go_enter Try.func16, Try.ntmps16
  go_wp2
  go_ret
  exact ⟨rfl, gr_alloc (World.grownBy_alloc _ _ _) _⟩
end Go.Proofs.Ytkmbfacgigpkmaa.gt
