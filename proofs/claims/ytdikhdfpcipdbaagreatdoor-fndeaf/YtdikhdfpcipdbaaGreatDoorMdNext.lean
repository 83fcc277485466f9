/- NextMode and MayFollow of the program: the first way that applies; is there a way. -/
import Derived.Test.YtdikhdfpcipdbaaGreatDoorMdWays
namespace Go.Proofs.YtdikhdfpcipdbaaGreatDoor.md
open Go.ChangeShapes Go.WideShapes Go.ChangeAt Go.RowKit
open Go.Proofs.YtdikhdfpcipdbaaGreatDoor.nums Go.Proofs.YtdikhdfpcipdbaaGreatDoor.mem
open Go.Proofs.YtdikhdfpcipdbaaGreatDoor.fix (ret_int ret_bool)
open Go.Proofs.YtdikhdfpcipdbaaGreatDoor.tab (Ret quiet_w)
open Go.Proofs.YtdikhdfpcipdbaaGreatDoor.cas (caseOk)
set_option linter.unusedVariables false

theorem next_no {m : Int} {f : Fx} (h : (modeOk m && factsOk f) = false) : nextMode m f = 0 := by unfold nextMode; rw [h]; rfl
theorem next_yes {m : Int} {f : Fx} (h1 : modeOk m = true) (h2 : factsOk f = true) : nextMode m f = first f m (ways m) := by unfold nextMode; rw [h1, h2]; rfl

theorem follow_no {a b : Int} (h : modeOk a = false) : mayFollow a b = false := by unfold mayFollow; rw [h]; rfl
theorem follow_yes {a b : Int} (h : modeOk a = true) : mayFollow a b = ((ways a).any (fun x => decide (x.1 = b)) || decide (b = a)) := by unfold mayFollow; rw [h]; rfl
theorem any_yes {b : Int} {l : List W2} {k : Nat} (h : k < l.length) (hb : lead l k = b) : (l.drop k).any (fun x => decide (x.1 = b)) = true := by
  rw [drop_at l h, List.any_cons]
  simp [hb]
theorem any_no {b : Int} {l : List W2} {k : Nat} (h : k < l.length) (hb : ¬ lead l k = b) : (l.drop k).any (fun x => decide (x.1 = b)) = (l.drop (k + 1)).any (fun x => decide (x.1 = b)) := by
  rw [drop_at l h, List.any_cons]
  simp [hb]

end Go.Proofs.YtdikhdfpcipdbaaGreatDoor.md
