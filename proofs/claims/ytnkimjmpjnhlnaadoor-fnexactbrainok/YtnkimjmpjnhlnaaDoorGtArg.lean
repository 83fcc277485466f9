/- What came in: a gate; read, copied into new memory, compared. -/
import Derived.Test.YtnkimjmpjnhlnaaDoorGt
import Derived.Test.YtnkimjmpjnhlnaaDoorMdArg
namespace Go.Proofs.YtnkimjmpjnhlnaaDoor.gt
open Go.ChangeShapes Go.WideShapes Go.ChangeAt Go.RowKit
open Go.Proofs.YtnkimjmpjnhlnaaDoor.nums Go.Proofs.YtnkimjmpjnhlnaaDoor.mem
open Go.Proofs.YtnkimjmpjnhlnaaDoor.tab (Ret quiet_w)
set_option linter.unusedVariables false

set_option maxRecDepth 100000 in
theorem open_gate {H : Type} {enc : TypeId × Value → H} {w : World} {r : Reach} {b0 base : Nat} {spare : Nat → Bool} {held : Bool} {v : Value} {d : DataW H} {p : List MemPlace}
    (hval : Value.okWide Tryd.prog w r b0 24 v) (h : DataW.Trod enc Tryd.prog w base spare held 24 v d p) : ∃ g : G, v = gv g := by
  obtain ⟨cs, rfl, hs⟩ := okWide_struct Tryd.underlying24 hval
  obtain ⟨fuel, hf⟩ := h
  have h2 : Tryd.prog.cellsOf 24 = 2 := by kernel_rfl
  rw [h2] at hs
  obtain ⟨y0, y1, n, _, hl, t0, t1⟩ := trod_struct2 Tryd.underlying24 hf
  obtain ⟨z, e0, _, _⟩ := DataW.trod_int Tryd.underlying2 t0
  obtain ⟨o, e1, _⟩ := DataW.trod_bool Tryd.underlying4 t1
  have c1 : Tryd.prog.cellsOf 2 = 1 := by kernel_rfl
  have c2 : Tryd.prog.cellsOf 4 = 1 := by kernel_rfl
  obtain ⟨l⟩ := cs
  match l, hs with
  | [x, y], _ =>
    simp [Value.cells, c1, c2] at e0 e1
    refine ⟨(z, o), ?_⟩
    rw [e0, e1]

set_option maxHeartbeats 1000000 in
theorem toGate (g : G) (w : World) : Calls Tryd.prog 24 #[gv g] w (Ret (gv g) w) := by
  go_enter Tryd.func24, Tryd.ntmps24
  go_wp2
  exact bodyPost_ret (v := gv g) (by simp [results, Tryd.results24, go_sem]) rfl ⟨rfl, gr_alloc (gr_alloc (World.grownBy_alloc _ _ _) _) _⟩

theorem eqGate (g : G) (w : World) : Calls Tryd.prog 31 #[gv g, gv g] w (Ret (.bool true) w) := by
  go_enter Tryd.func31, Tryd.ntmps31
  go_wp2
  go_ret
  exact ⟨rfl, gr_alloc (World.grownBy_alloc _ _ _) _⟩
end Go.Proofs.YtnkimjmpjnhlnaaDoor.gt
