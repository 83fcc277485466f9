/- Chapter 9 on plain triples; a fan in memory; the small functions of both sides. -/
import Derived.Test.YtdikhdfpcipdbaaGreatDoorRd
import Derived.Test.YtdikhdfpcipdbaaGreatDoorBncImpl
namespace Go.Proofs.YtdikhdfpcipdbaaGreatDoor.fan
open Go.ChangeShapes Go.WideShapes Go.ChangeAt Go.RowKit
open Go.Proofs.YtdikhdfpcipdbaaGreatDoor.nums Go.Proofs.YtdikhdfpcipdbaaGreatDoor.mem
open Go.Proofs.YtdikhdfpcipdbaaGreatDoor.rd (R okR fresh three set3 fresh1 okR_iff)
open Go.Proofs.YtdikhdfpcipdbaaGreatDoor.bnc (feel inb_iff inb_no)
open Go.Proofs.YtdikhdfpcipdbaaGreatDoor.tab (Ret quiet_w wpList_make_has)
set_option linter.unusedVariables false

/-- A fan: its bounce's number, whether it is on, whether it is given up. -/
abbrev F := Int × Bool × Bool
def zF : F := (0, false, false)
def okF (f : F) : Bool := inb f.1 0 100
def lowB (wn : Int) (r : R) : Bool := !fresh r 3 || decide (2 * r.1 < wn)
/-- What one sign does. -/
def felt (f : F) (s : Bool) : F := ((feel 5 5 (f.1, f.2.1) s).1, (feel 5 5 (f.1, f.2.1) s).2, f.2.2)
def outed (f : F) : F := (f.1, f.2.1, f.2.2 || f.2.1)
def right (f : F) (wn : Int) (r : R) : Bool := okF f && (inb wn 0 1000 && okR r)
def watched (f : F) (wn : Int) (r : R) : F :=
  if right f wn r = true then (if 100 ≤ wn then outed (felt f (lowB wn r)) else outed f) else zF
theorem right_iff {f : F} {wn : Int} {r : R} : right f wn r = true ↔ (0 ≤ f.1 ∧ f.1 ≤ 100) ∧ (0 ≤ wn ∧ wn ≤ 1000) ∧ okR r = true := by
  unfold right okF; simp [inb_iff]
theorem watched_no {f : F} {wn : Int} {r : R} (h : right f wn r = false) : watched f wn r = (0, false, false) := if_neg (by rw [h]; simp)
theorem watched_low {f : F} {wn : Int} {r : R} (h : right f wn r = true) (hw : wn < 100) : watched f wn r = outed f := by
  unfold watched; rw [if_pos h, if_neg (by omega)]
theorem watched_hi {f : F} {wn : Int} {r : R} (h : right f wn r = true) (hw : 100 ≤ wn) : watched f wn r = outed (felt f (lowB wn r)) := by
  unfold watched; rw [if_pos h, if_pos hw]
theorem felt_rng {N : Int} {on out : Bool} (s : Bool) (h0 : 0 ≤ N) (h1 : N ≤ 100) : 0 ≤ (felt (N, on, out) s).1 ∧ (felt (N, on, out) s).1 ≤ 100 :=
  bnc.feel_rng (b := (N, on)) s ⟨by omega, by omega⟩ ⟨by omega, by omega⟩ h0 h1

/-- It returns this fan; of what was there nothing is another. -/
def RetF (f : F) (w : World) (e : Ending) (w' : World) : Prop := e = .returned (.agg #[.int .i64 f.1, .bool f.2.1, .bool f.2.2]) ∧ w.grownBy w' none

theorem specFanOk (N : Int) (on out : Bool) (w : World) : Calls Tryz.prog 143 #[.agg #[.int .i64 N, .bool on, .bool out]] w (Ret (.bool (inb N 0 100)) w) := by
  go_enter Tryz.func143, Tryz.ntmps143
  go_wp2_with fail
  refine (bnc.specBounceOk _ _ _).mono ?_
  rintro e w' ⟨rfl, hg⟩
  go_wp2_with fail
  go_ret
  exact ⟨rfl, gr_trans (World.grownBy_alloc _ _ _) hg⟩

end Go.Proofs.YtdikhdfpcipdbaaGreatDoor.fan
