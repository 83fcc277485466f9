/- Gated of the program. -/
import Derived.Test.YtdikhdfpcipdbaaGreatDoorGt
import Derived.Test.YtdikhdfpcipdbaaGreatDoorQuietTail
import Derived.Deep.DeepCutAuto
namespace Go.Proofs.YtdikhdfpcipdbaaGreatDoor.gt
open Go.ChangeShapes Go.WideShapes Go.ChangeAt Go.RowKit
open Go.Extern.Stop Go.Stop Go.Extern
open Go.Proofs.YtdikhdfpcipdbaaGreatDoor.nums Go.Proofs.YtdikhdfpcipdbaaGreatDoor.mem
open Go.Proofs.YtdikhdfpcipdbaaGreatDoor.fix (ret_int ret_bool)
open Go.Proofs.YtdikhdfpcipdbaaGreatDoor.tab (Ret quiet_w)
open Go.Proofs.YtdikhdfpcipdbaaGreatDoor.md (Fx cs8 fac factsOk eight)
open Go.Proofs.YtdikhdfpcipdbaaGreatDoor.qt (region_below_tail rg_ret rg_same gr_rg)
set_option linter.unusedVariables false

/-- The three boxes that Gated lays at its start. -/
abbrev w3 (w : World) (g : G) (f : Fx) : World := ((w.alloc (Obj.cells (cs2 g) 86)).alloc (Obj.cells (cs8 f) 35)).alloc (Obj.cells #[.int .i64 0, .bool false] 86)
theorem w3_has (w : World) (g : G) (f : Fx) : Has (w3 w g f) w.heap.size 86 (cs2 g) ∧ Has (w3 w g f) (w.heap.size + 1) 35 (cs8 f) ∧ Has (w3 w g f) (w.heap.size + 1 + 1) 86 #[.int .i64 0, .bool false] ∧ w.grownBy (w3 w g f) none := by
  refine ⟨((Has.fresh _ _ _).alloc _).alloc _, ?_, ?_, gr_alloc (gr_alloc (World.grownBy_alloc _ _ _) _) _⟩
  · have := (Has.fresh (w.alloc (Obj.cells (cs2 g) 86)) 35 (cs8 f)).alloc (Obj.cells #[.int .i64 0, .bool false] 86)
    simpa using this
  · have := Has.fresh ((w.alloc (Obj.cells (cs2 g) 86)).alloc (Obj.cells (cs8 f) 35)) 86 #[.int .i64 0, .bool false]
    simpa using this

end Go.Proofs.YtdikhdfpcipdbaaGreatDoor.gt
