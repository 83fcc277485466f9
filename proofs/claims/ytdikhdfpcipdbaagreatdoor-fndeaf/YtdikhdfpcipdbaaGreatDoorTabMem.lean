/- A table in memory: its points lie in one block, two cells each. -/
import Derived.Test.YtdikhdfpcipdbaaGreatDoorFix2
import Derived.Test.YtdikhdfpcipdbaaGreatDoorMem
import Derived.Test.YtdikhdfpcipdbaaGreatDoorTab
import Derived.BigQuiet
import Derived.Deep.QuietTactic
namespace Go.Proofs.YtdikhdfpcipdbaaGreatDoor.tab
open Go.ChangeShapes Go.WideShapes Go.ChangeAt Go.RowKit
open Go.Proofs.YtdikhdfpcipdbaaGreatDoor.nums Go.Proofs.YtdikhdfpcipdbaaGreatDoor.mem
set_option linter.unusedVariables false

theorem quiet_w {P : Program} {f : FuncId} {args : Array Value} {w : World} {n : Nat} {v : Value}
    (h : Calls P f args (w.drewN n) fun e w' => e = .returned v ∧ w.drewN n = w') : Calls P f args (w.drewN n) fun e w'' => e = .returned v ∧ ∃ m, w'' = w.drewN m :=
  h.mono fun _ _ ⟨he, hm⟩ => ⟨he, n, hm.symm⟩

/-- The points ps lie in block g, from its start on. -/
def Tab (w : World) (g : Nat) (ps : Pts) : Prop := g < w.heap.size ∧ ∀ k, k < ps.length → w.cell? ⟨g, k * 2, none⟩ = some (.int .i64 (px ps k)) ∧ w.cell? ⟨g, k * 2 + 1, none⟩ = some (.int .i64 (py ps k))
/-- It returns v; of what was there nothing is another. -/
def Ret (v : Value) (w : World) (e : Ending) (w' : World) : Prop := e = .returned v ∧ w.grownBy w' none

theorem Tab.grown {w w' : World} {g : Nat} {ps : Pts} {row : Option Nat} (h : Tab w g ps) (hb : w.grownBy w' row) (hn : some g ≠ row) : Tab w' g ps := by
  refine ⟨Nat.lt_of_lt_of_le h.1 hb.size, fun k hk => ?_⟩
  obtain ⟨h1, h2⟩ := h.2 k hk
  exact ⟨(World.cell?_of_block (hb.block g h.1 hn)).trans h1, (World.cell?_of_block (hb.block g h.1 hn)).trans h2⟩
theorem Tab.kept {w w' : World} {g : Nat} {ps : Pts} (h : Tab w g ps) (hb : w.grownBy w' none) : Tab w' g ps := h.grown hb (by simp)
theorem Tab.below {w w' : World} {g B : Nat} {ps : Pts} (h : Tab w g ps) (hb : Below B w w') (hg : g < B) : Tab w' g ps := by
  refine ⟨Nat.lt_of_lt_of_le h.1 hb.size, fun k hk => ?_⟩
  obtain ⟨h1, h2⟩ := h.2 k hk
  exact ⟨(hb.cell (p := ⟨g, k * 2, none⟩) hg).trans h1, (hb.cell (p := ⟨g, k * 2 + 1, none⟩) hg).trans h2⟩
theorem okB_bad {ps : Pts} {k : Nat} (hk : k < ps.length) (h : szB ps k = false) : okB ps = false := by
  refine okB_false fun ho => ?_
  have := ho.2.2.1 k hk
  rw [h] at this; cases this
theorem okB_fall {ps : Pts} {k : Nat} (hk : k + 1 < ps.length) (h : px ps (k + 1) ≤ px ps k) : okB ps = false := by
  refine okB_false fun ho => ?_
  have := ho.2.2.2 k hk
  omega

/-- It returns what stands at x. -/
def RetAt (ps : Pts) (x : Int) (w : World) (e : Ending) (w' : World) : Prop := ∃ y, AtIs ps x y ∧ e = .returned (.int .i64 y) ∧ w.grownBy w' none
end Go.Proofs.YtdikhdfpcipdbaaGreatDoor.tab
