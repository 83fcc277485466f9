/- What gives up, and the face behind which it is not seen. -/
import Derived.Test.YtnkimjmpjnhlnaaDoorBrOkA
import Derived.Defers
import Derived.Recover
import Derived.Laws.Pointers
import Derived.StillTailTactics
import Derived.WalkSmall
namespace Go.Proofs.YtnkimjmpjnhlnaaDoor.br
open Go.ChangeShapes Go.WideShapes Go.ChangeAt Go.RowKit
open Go.Proofs.YtnkimjmpjnhlnaaDoor.nums Go.Proofs.YtnkimjmpjnhlnaaDoor.mem
open Go.Proofs.YtnkimjmpjnhlnaaDoor.tab (Ret)
open Go.Proofs.YtnkimjmpjnhlnaaDoor.fan (F okF zF fN fO fT)
open Go.Proofs.YtnkimjmpjnhlnaaDoor.il (nth Ints Own)
set_option linter.unusedVariables false

/-- The variable errCannotBe holds some value of some type. -/
def Err (w : World) (u : TypeId) (pv : Value) : Prop := 1 < w.heap.size ∧ w.cell? ⟨1, 0, none⟩ = some (.iface u pv)
theorem Err.kept {w w' : World} {u : TypeId} {pv : Value} (h : Err w u pv) (hg : w.grownBy w' none) : Err w' u pv :=
  ⟨Nat.lt_of_lt_of_le h.1 hg.size, (World.cell?_of_block (hg.block _ h.1 (by simp))).trans h.2⟩
/-- It comes back where it is so, else it gives up. -/
def MustE (u : TypeId) (pv : Value) (t : Bool) (w : World) (e : Ending) (w' : World) : Prop :=
  e = (if t = true then Ending.returned (.tuple #[]) else .panicked [{ v := .iface u pv, recovered := false }]) ∧ w.grownBy w' none

theorem must_true (w : World) : Calls Tryd.prog 49 #[.bool true] w fun e w' => e = .returned (.tuple #[]) ∧ w = w' := by
  go_enter Tryd.func49, Tryd.ntmps49
  go_wp2
  go_end0
  exact ⟨rfl, rfl⟩
theorem must_false (u : TypeId) (pv : Value) (w : World) (h : Err w u pv) : Calls Tryd.prog 49 #[.bool false] w fun e w' => e = .panicked [{ v := .iface u pv, recovered := false }] ∧ w = w' := by
  obtain ⟨_, c0⟩ := h
  go_enter Tryd.func49, Tryd.ntmps49
  go_wp2
  exact ⟨rfl, rfl, rfl⟩
end Go.Proofs.YtnkimjmpjnhlnaaDoor.br
