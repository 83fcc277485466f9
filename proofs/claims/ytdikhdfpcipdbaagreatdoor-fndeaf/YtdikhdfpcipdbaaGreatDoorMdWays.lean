/- Chapter 13: the ways out of each mode, as the program's table has them; what the first one that applies leads to. -/
import Derived.Test.YtdikhdfpcipdbaaGreatDoorMd2
import Derived.Laws.EntriesVeiled
import Derived.Shelf.Abstract
import Derived.Deep.DeepCutAuto
namespace Go.Proofs.YtdikhdfpcipdbaaGreatDoor.md
open Go.ChangeShapes Go.WideShapes Go.ChangeAt Go.RowKit
open Go.Proofs.YtdikhdfpcipdbaaGreatDoor.nums Go.Proofs.YtdikhdfpcipdbaaGreatDoor.mem
open Go.Proofs.YtdikhdfpcipdbaaGreatDoor.fix (ret_int ret_bool)
open Go.Proofs.YtdikhdfpcipdbaaGreatDoor.tab (Ret quiet_w)
open Go.Proofs.YtdikhdfpcipdbaaGreatDoor.cas (caseOk)
set_option linter.unusedVariables false

/-- A way: where to, and which of the eight questions. -/
abbrev W2 := Int × Nat
def ways (m : Int) : List W2 :=
  if m = 0 then [(1, 1)] else if m = 1 then [(5, 0), (0, 2), (2, 3)] else if m = 2 then [(5, 0), (4, 4), (3, 5)] else if m = 3 then [(5, 0), (4, 6)] else if m = 4 then [(5, 0), (1, 7)] else []
def lead (l : List W2) (k : Nat) : Int := (l.getD k (0, 0)).1
def ask (l : List W2) (k : Nat) : Nat := (l.getD k (0, 0)).2
/-- The answer to the i-th question, and the number of its function. -/
def cnd (f : Fx) (i : Nat) : Bool := [many f, rise f, landed f, setOut f, giveUp f, fast f, turnBack f, back f].getD i false
/-- Where the first way that applies leads to; else m. -/
def first (f : Fx) (m : Int) : List W2 → Int
  | [] => m
  | x :: r => if cnd f x.2 = true then x.1 else first f m r
def nextMode (m : Int) (f : Fx) : Int := if (modeOk m && factsOk f) = true then first f m (ways m) else 0
def mayFollow (a b : Int) : Bool := modeOk a && ((ways a).any (fun x => decide (x.1 = b)) || decide (b = a))

theorem six {m : Int} (h : modeOk m = true) : m = 0 ∨ m = 1 ∨ m = 2 ∨ m = 3 ∨ m = 4 ∨ m = 5 := by unfold modeOk inb at h; simp at h; omega
theorem ways_len {m : Int} : (ways m).length ≤ 3 := by
  unfold ways
  repeat (split; · decide)
  decide
theorem ask_lt {m : Int} : ∀ k, k < (ways m).length → ask (ways m) k < 8 := by
  unfold ways
  repeat (split; · decide)
  decide
theorem drop_at (l : List W2) {k : Nat} (h : k < l.length) : l.drop k = (lead l k, ask l k) :: l.drop (k + 1) := by
  rw [List.drop_eq_getElem_cons h]
  congr 1
  unfold lead ask
  rw [List.getD_eq_getElem?_getD, List.getElem?_eq_getElem h]
  rfl
theorem first_yes {f : Fx} {m : Int} {l : List W2} {k : Nat} (h : k < l.length) (hc : cnd f (ask l k) = true) : first f m (l.drop k) = lead l k := by
  rw [drop_at l h]; unfold first; exact if_pos hc
theorem first_no {f : Fx} {m : Int} {l : List W2} {k : Nat} (h : k < l.length) (hc : cnd f (ask l k) = false) : first f m (l.drop k) = first f m (l.drop (k + 1)) := by
  rw [drop_at l h]
  show (if cnd f (ask l k) = true then lead l k else first f m (l.drop (k + 1))) = _
  rw [hc]; rfl

theorem fresh_at {w : World} {n : Nat} (h : w.heap.size = n) (t : TypeId) (cs : Array Value) : Has (w.alloc (.cells cs t)) n t cs := h ▸ Has.fresh w t cs

end Go.Proofs.YtdikhdfpcipdbaaGreatDoor.md
