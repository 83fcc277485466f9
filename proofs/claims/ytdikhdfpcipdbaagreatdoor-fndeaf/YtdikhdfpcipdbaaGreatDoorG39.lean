/- The iterator of chapter 2: it gives each point with the one behind it, whatever the loop's body does that leaves the table. The program's chapter 2: contracts of pointOk and yBetween, and of TableOk. The program's TableOk, where it goes through the points. The program's TableOk whole; IsRising, At and GreatestY. -/
import Derived.Test.YtdikhdfpcipdbaaGreatDoorG2
import Derived.Test.YtdikhdfpcipdbaaGreatDoorG21
import Derived.RangeFuncNested
import Derived.RangeFuncBound
import Derived.RangeFuncCalls
import Derived.RangeFuncLeaves
import Derived.Shelf.Abstract
import Derived.Shelf.RegionOpen
import Derived.WalkKit
import Derived.OwnWalkIn
import Derived.TacticsInMore
import Derived.LoopNIn
import Derived.LoopIn
/- The iterator of chapter 2: it gives each point with the one behind it, whatever the loop's body does that leaves the table. -/
namespace Go.Proofs.YtdikhdfpcipdbaaGreatDoor.tab
open Go.RowKit Go.Shelf
open Go.Proofs.YtdikhdfpcipdbaaGreatDoor.nums Go.Proofs.YtdikhdfpcipdbaaGreatDoor.mem
set_option linter.unusedVariables false
attribute [local go_sem] Oper.semAt_some

/-- Blocks a and b lie as they lay. -/
def Kp2 (a b : Nat) (W W' : World) : Prop := W.heap.size ≤ W'.heap.size ∧ W'.heap[a]? = W.heap[a]? ∧ W'.heap[b]? = W.heap[b]?
theorem Kp2.refl (a b : Nat) (W : World) : Kp2 a b W W := ⟨Nat.le_refl _, rfl, rfl⟩
theorem Kp2.trans {a b : Nat} {A B C : World} (h : Kp2 a b A B) (k : Kp2 a b B C) : Kp2 a b A C := ⟨Nat.le_trans h.1 k.1, k.2.1.trans h.2.1, k.2.2.trans h.2.2⟩
theorem Kp2.grown {a b : Nat} {W W' : World} {row : Option Nat} (hg : W.grownBy W' row) (ha : a < W.heap.size) (hb : b < W.heap.size) (h1 : some a ≠ row) (h2 : some b ≠ row) : Kp2 a b W W' := ⟨hg.size, hg.block a ha h1, hg.block b hb h2⟩
theorem Kp2.tab {a b : Nat} {W W' : World} {ps : Pts} (h : Kp2 a b W W') (ht : Tab W a ps) : Tab W' a ps := by
  refine ⟨Nat.lt_of_lt_of_le ht.1 h.1, fun k hk => ?_⟩
  obtain ⟨h1, h2⟩ := ht.2 k hk
  exact ⟨(World.cell?_of_block (a := ⟨a, k * 2, none⟩) h.2.1).trans h1, (World.cell?_of_block (a := ⟨a, k * 2 + 1, none⟩) h.2.1).trans h2⟩
theorem Kp2.cell {a b : Nat} {W W' : World} {v : Value} (h : Kp2 a b W W') (hc : W.cell? ⟨b, 0, none⟩ = some v) : W'.cell? ⟨b, 0, none⟩ = some v := (World.cell?_of_block (a := ⟨b, 0, none⟩) h.2.2).trans hc

end Go.Proofs.YtdikhdfpcipdbaaGreatDoor.tab

/- The program's chapter 2: contracts of pointOk and yBetween, and of TableOk. -/
namespace Go.Proofs.YtdikhdfpcipdbaaGreatDoor.tab
open Go.ChangeShapes Go.WideShapes Go.ChangeAt Go.RowKit Go.Shelf
open Go.Proofs.YtdikhdfpcipdbaaGreatDoor.nums Go.Proofs.YtdikhdfpcipdbaaGreatDoor.mem
set_option linter.unusedVariables false

end Go.Proofs.YtdikhdfpcipdbaaGreatDoor.tab

/- The program's TableOk, where it goes through the points. -/
namespace Go.Proofs.YtdikhdfpcipdbaaGreatDoor.tab
open Go.ChangeShapes Go.WideShapes Go.ChangeAt Go.RowKit Go.Shelf
open Go.Proofs.YtdikhdfpcipdbaaGreatDoor.nums Go.Proofs.YtdikhdfpcipdbaaGreatDoor.mem
set_option linter.unusedVariables false
attribute [local go_sem] Oper.semAt_some

end Go.Proofs.YtdikhdfpcipdbaaGreatDoor.tab

/- The program's TableOk whole; IsRising, At and GreatestY. -/
namespace Go.Proofs.YtdikhdfpcipdbaaGreatDoor.tab
open Go.ChangeShapes Go.WideShapes Go.ChangeAt Go.RowKit Go.Shelf
open Go.Proofs.YtdikhdfpcipdbaaGreatDoor.nums Go.Proofs.YtdikhdfpcipdbaaGreatDoor.mem
set_option linter.unusedVariables false
attribute [local go_sem] Oper.semAt_some

end Go.Proofs.YtdikhdfpcipdbaaGreatDoor.tab

