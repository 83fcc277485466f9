/- The iterator of chapter 2: it gives each point with the one behind it, whatever the loop's body does that leaves the table. -/
import Derived.Test.YtdikhdfpcipdbaaGreatDoorTabMem
import Derived.Test.YtdikhdfpcipdbaaGreatDoorWideTail
import Derived.RangeFuncNested
import Derived.RangeFuncBound
import Derived.RangeFuncCalls
import Derived.RangeFuncLeaves
import Derived.Shelf.Abstract
import Derived.Shelf.RegionOpen
import Derived.WalkKit
import Derived.OwnWalkIn
import Derived.TacticsInMore
import Derived.LoopNIn
import Derived.LoopIn
namespace Go.Proofs.YtdikhdfpcipdbaaGreatDoor.tab
open Go.RowKit Go.Shelf
open Go.Proofs.YtdikhdfpcipdbaaGreatDoor.nums Go.Proofs.YtdikhdfpcipdbaaGreatDoor.mem
set_option linter.unusedVariables false
attribute [local go_sem] Oper.semAt_some

/-- Blocks a and b lie as they lay. -/
def Kp2 (a b : Nat) (W W' : World) : Prop := W.heap.size ≤ W'.heap.size ∧ W'.heap[a]? = W.heap[a]? ∧ W'.heap[b]? = W.heap[b]?
theorem Kp2.refl (a b : Nat) (W : World) : Kp2 a b W W := ⟨Nat.le_refl _, rfl, rfl⟩
theorem Kp2.trans {a b : Nat} {A B C : World} (h : Kp2 a b A B) (k : Kp2 a b B C) : Kp2 a b A C := ⟨Nat.le_trans h.1 k.1, k.2.1.trans h.2.1, k.2.2.trans h.2.2⟩
theorem Kp2.grown {a b : Nat} {W W' : World} {row : Option Nat} (hg : W.grownBy W' row) (ha : a < W.heap.size) (hb : b < W.heap.size) (h1 : some a ≠ row) (h2 : some b ≠ row) : Kp2 a b W W' := ⟨hg.size, hg.block a ha h1, hg.block b hb h2⟩
theorem kp2_b {a b : Nat} {w : World} (ha : a < w.heap.size) (hb : b < w.heap.size) (W : World) (l : Nat) (o o' : Obj) (hl : w.heap.size ≤ l) (h : W.heap[l]? = some o) (_ : o.isCells = false) (_ : o.isWalk = false) : Kp2 a b W (W.putObj l o') := by
  have hlt := (Array.getElem?_eq_some_iff.1 h).1
  exact Kp2.grown (grownBy_putObj' W l o') (by omega) (by omega) (fun e => by injection e with e; omega) (fun e => by injection e with e; omega)
theorem Kp2.tab {a b : Nat} {W W' : World} {ps : Pts} (h : Kp2 a b W W') (ht : Tab W a ps) : Tab W' a ps := by
  refine ⟨Nat.lt_of_lt_of_le ht.1 h.1, fun k hk => ?_⟩
  obtain ⟨h1, h2⟩ := ht.2 k hk
  exact ⟨(World.cell?_of_block (a := ⟨a, k * 2, none⟩) h.2.1).trans h1, (World.cell?_of_block (a := ⟨a, k * 2 + 1, none⟩) h.2.1).trans h2⟩
theorem Kp2.cell {a b : Nat} {W W' : World} {v : Value} (h : Kp2 a b W W') (hc : W.cell? ⟨b, 0, none⟩ = some v) : W'.cell? ⟨b, 0, none⟩ = some v := (World.cell?_of_block (a := ⟨b, 0, none⟩) h.2.2).trans hc

/-- A point as a value. -/
def ptv (ps : Pts) (k : Nat) : Value := .agg #[.int .i64 (px ps k), .int .i64 (py ps k)]
theorem range_snoc (k : Nat) : List.range (k + 1) = List.range k ++ [k] := List.range_succ

/-- 'The block holds just these cells' speaks of cells alone. -/
theorem has_own {β : Type} (B : Nat) (t : TypeId) (f : β → Array Value) : Own (fun s W => Has W B t (f s)) := fun s X Y row hs hg hrow =>
  hs.grown hg (fun e' => by obtain ⟨o, ho, hc⟩ := hrow B e'.symm; rw [show X.heap[B]? = _ from hs] at ho; cases ho; cases hc)
end Go.Proofs.YtdikhdfpcipdbaaGreatDoor.tab
