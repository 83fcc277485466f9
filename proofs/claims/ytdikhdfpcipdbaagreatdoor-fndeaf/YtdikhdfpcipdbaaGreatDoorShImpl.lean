/- Shared of the program. -/
import Derived.Test.YtdikhdfpcipdbaaGreatDoorShCut
import Derived.Test.YtdikhdfpcipdbaaGreatDoorQuietTail
import Derived.Deep.DeepCutAuto
namespace Go.Proofs.YtdikhdfpcipdbaaGreatDoor.sh
open Go.ChangeShapes Go.WideShapes Go.ChangeAt Go.RowKit
open Go.Proofs.YtdikhdfpcipdbaaGreatDoor.nums Go.Proofs.YtdikhdfpcipdbaaGreatDoor.mem
open Go.Proofs.YtdikhdfpcipdbaaGreatDoor.tab (Ret quiet_w wpList_make_has)
open Go.Proofs.YtdikhdfpcipdbaaGreatDoor.qt (region_below_tail rg_ret rg_same gr_rg)
open Go.Proofs.YtdikhdfpcipdbaaGreatDoor.il (nth Own RetI blk blk_some infoInt)
set_option linter.unusedVariables false

/-- What the k-th fan has: its turn on what is left of the Lift, or nothing. -/
def has (c L r p : Int) (k : Nat) : Int := if on c k then L + turn r p k else 0
def shared6 (c l r p : Int) : List Int := (List.range 6).map (has c (cutL (on c) l (btw r (-100) 100) (btw p (-100) 100)) (btw r (-100) 100) (btw p (-100) 100))
def shared (c l r p : Int) : List Int := if (cas.caseOk c && okD l r p) = true then shared6 c l r p else []
theorem shared_yes {c l r p : Int} (h : (cas.caseOk c && okD l r p) = true) : shared c l r p = shared6 c l r p := if_pos h
theorem shared_no {c l r p : Int} (h : (cas.caseOk c && okD l r p) = false) : shared c l r p = [] := if_neg (by rw [h]; simp)
theorem cutL_in {c l r p : Int} (hr : -100 ≤ r ∧ r ≤ 100) (hp : -100 ≤ p ∧ p ≤ 100) : 0 ≤ cutL (on c) l r p ∧ cutL (on c) l r p ≤ 1000 := by
  have := top_in (S := on c) (t := turn r p) (B := 400) (by omega) (fun k hk => turn_in hr hp hk)
  unfold cutL btw; omega
theorem map6 {g : Nat → Int} {j : Nat} (h : j < 6) : nth ((List.range 6).map g) j = g j := by
  rcases six h with rfl | rfl | rfl | rfl | rfl | rfl <;> rfl

theorem made6 {j : Nat} (hj : j < 6) : (madeCells #[Value.int .i64 0] 6)[j]? = some (.int .i64 0) := by
  rcases six hj with rfl | rfl | rfl | rfl | rfl | rfl <;> simp [madeCells]

end Go.Proofs.YtdikhdfpcipdbaaGreatDoor.sh
