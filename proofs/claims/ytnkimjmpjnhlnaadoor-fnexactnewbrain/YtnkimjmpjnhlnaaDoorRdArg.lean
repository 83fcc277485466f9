/- What came in: a reading, a list of readings; read, copied into new memory, compared, marked. -/
import Derived.Test.YtnkimjmpjnhlnaaDoorRd
import Derived.ChangeSame
import Derived.Deep.Strs
import Derived.StillTailTactics
namespace Go.Proofs.YtnkimjmpjnhlnaaDoor.rd
open Go.ChangeShapes Go.WideShapes Go.ChangeAt Go.RowKit
open Go.Proofs.YtnkimjmpjnhlnaaDoor.nums Go.Proofs.YtnkimjmpjnhlnaaDoor.mem
open Go.Proofs.YtnkimjmpjnhlnaaDoor.tab (Ret quiet_w wpList_make_has add_off)
set_option linter.unusedVariables false

set_option maxRecDepth 100000 in
theorem open_reading {H : Type} {enc : TypeId × Value → H} {w : World} {r : Reach} {b0 base : Nat} {spare : Nat → Bool} {held : Bool} {v : Value} {d : DataW H} {p : List MemPlace}
    (hval : Value.okWide Tryd.prog w r b0 91 v) (h : DataW.Trod enc Tryd.prog w base spare held 91 v d p) : ∃ (x a : Int) (o : Bool), v = .agg #[.int .i64 x, .int .i64 a, .bool o] ∧ (Lit.int .i64 x).wf = true ∧ (Lit.int .i64 a).wf = true := by
  obtain ⟨cs, rfl, hs⟩ := okWide_struct Tryd.underlying91 hval
  obtain ⟨fuel, hf⟩ := h
  have h2 : Tryd.prog.cellsOf 91 = 3 := by kernel_rfl
  rw [h2] at hs
  obtain ⟨y0, y1, y2, n, _, hl, t0, t1, t2⟩ := Go.Deep.trod_struct3 Tryd.underlying91 hf
  obtain ⟨z, e0, _, hw⟩ := DataW.trod_int Tryd.underlying2 t0
  obtain ⟨z1, e1, _, hw1⟩ := DataW.trod_int Tryd.underlying2 t1
  obtain ⟨o, e2, _⟩ := DataW.trod_bool Tryd.underlying4 t2
  have c1 : Tryd.prog.cellsOf 2 = 1 := by kernel_rfl
  have c2 : Tryd.prog.cellsOf 4 = 1 := by kernel_rfl
  obtain ⟨l⟩ := cs
  match l, hs with
  | [x, y, u], _ =>
    simp [Value.cells, c1, c2] at e0 e1 e2
    refine ⟨z, z1, o, ?_, hw, hw1⟩
    rw [e0, e1, e2]

set_option maxHeartbeats 1000000 in
theorem toReading (v a : Int) (o : Bool) (w : World) : Calls Tryd.prog 63 #[.agg #[.int .i64 v, .int .i64 a, .bool o]] w (RetR (v, a, o) w) := by
  go_enter Tryd.func63, Tryd.ntmps63
  go_wp2
  exact bodyPost_ret (v := .agg #[.int .i64 v, .int .i64 a, .bool o]) (by simp [results, Tryd.results63, go_sem]) rfl ⟨rfl, gr_alloc (gr_alloc (World.grownBy_alloc _ _ _) _) _⟩

theorem eqReading (v a : Int) (o : Bool) (w : World) : Calls Tryd.prog 70 #[.agg #[.int .i64 v, .int .i64 a, .bool o], .agg #[.int .i64 v, .int .i64 a, .bool o]] w (Ret (.bool true) w) := by
  go_enter Tryd.func70, Tryd.ntmps70
  go_wp2
  go_ret
  exact ⟨rfl, gr_alloc (World.grownBy_alloc _ _ _) _⟩
end Go.Proofs.YtnkimjmpjnhlnaaDoor.rd
