/- What came in: a bounce, a list of signs; read, copied into new memory, compared. -/
import Derived.Test.YtdikhdfpcipdbaaGreatDoorBncImpl
import Derived.Test.YtdikhdfpcipdbaaGreatDoorTabArg
import Derived.ChangeSame
import Derived.Deep.Grids
namespace Go.Proofs.YtdikhdfpcipdbaaGreatDoor.bnc
open Go.ChangeShapes Go.WideShapes Go.ChangeAt Go.RowKit
open Go.Proofs.YtdikhdfpcipdbaaGreatDoor.nums Go.Proofs.YtdikhdfpcipdbaaGreatDoor.mem
open Go.Proofs.YtdikhdfpcipdbaaGreatDoor.tab (Ret quiet_w wpList_make_has)
set_option linter.unusedVariables false

/-- The slice that came in holds these signs, each in a cell, in a block of the world. -/
def Arg (w : World) (a : Option Addr) (l : List Bool) : Prop :=
  ∀ k, k < l.length → ∃ x : Addr, a = some x ∧ x.block < w.heap.size ∧ w.cell? (x.add k) = some (.bool (l.getD k false))
theorem Arg.kept {w w' : World} {a : Option Addr} {l : List Bool} (h : Arg w a l) (hg : w.grownBy w' none) : Arg w' a l := by
  intro k hk
  obtain ⟨x, e, hb, h1⟩ := h k hk
  refine ⟨x, e, Nat.lt_of_lt_of_le hb hg.size, ?_⟩
  rw [← h1]; exact World.cell?_of_block (hg.block _ (by rw [block_add]; omega) (by simp))

theorem infoBool : (Tryz.prog.info? 4).map (fun i => (i.zero, i.size, i.bytes)) = some (some (.bool false), 1, 1) := by kernel_rfl

/-- A copy: a new block that holds the signs; of what was there nothing is another. -/
def Copied (l : List Bool) (w : World) (e : Ending) (w' : World) : Prop := ∃ g, e = .returned (.slice (some ⟨g, 0, none⟩) l.length l.length) ∧ w.heap.size ≤ g ∧ w.grownBy w' none ∧ Bs w' g l

end Go.Proofs.YtdikhdfpcipdbaaGreatDoor.bnc
