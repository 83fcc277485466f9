/- Chapter 13 on plain facts: the modes, what is asked, the ways out of each; the small functions of both sides. -/
import Derived.Test.YtdikhdfpcipdbaaGreatDoorCa
import Derived.Test.YtdikhdfpcipdbaaGreatDoorFix2
import Derived.WalkMore
import Derived.Deep.RegionHeldLaw
import Derived.Deep.RegionHeld3
namespace Go.Proofs.YtdikhdfpcipdbaaGreatDoor.md
open Go.ChangeShapes Go.WideShapes Go.ChangeAt Go.RowKit
open Go.Proofs.YtdikhdfpcipdbaaGreatDoor.nums Go.Proofs.YtdikhdfpcipdbaaGreatDoor.mem
open Go.Proofs.YtdikhdfpcipdbaaGreatDoor.fix (ret_int ret_bool)
open Go.Proofs.YtdikhdfpcipdbaaGreatDoor.tab (Ret quiet_w)
open Go.Proofs.YtdikhdfpcipdbaaGreatDoor.cas (caseOk)
set_option linter.unusedVariables false

/-- What is known: the speed and whether it is, the height and whether it is, the case, armed, the want, the timer. -/
structure Fx where
  sp : Int
  so : Bool
  h : Int
  ho : Bool
  c : Int
  ar : Bool
  wn : Int
  tm : Int
/-- Its cells, and the value. -/
abbrev cs8 (f : Fx) : Array Value := #[.int .i64 f.sp, .bool f.so, .int .i64 f.h, .bool f.ho, .int .i64 f.c, .bool f.ar, .int .i64 f.wn, .int .i64 f.tm]
abbrev fac (f : Fx) : Value := .agg #[.int .i64 f.sp, .bool f.so, .int .i64 f.h, .bool f.ho, .int .i64 f.c, .bool f.ar, .int .i64 f.wn, .int .i64 f.tm]

def factsOk (f : Fx) : Bool := inb f.sp (-1000000) 1000000 && (inb f.h (-1000000) 1000000 && (caseOk f.c && (inb f.wn 0 2 && inb f.tm 0 1000)))
def modeOk (m : Int) : Bool := inb m 0 5
def inAir (m : Int) : Bool := inb m 1 4

def many (f : Fx) : Bool := decide (f.c = 7)
def rise (f : Fx) : Bool := f.ar && (f.so && (f.ho && decide (f.c = 0)))
def landed (f : Fx) : Bool := decide (f.wn = 2) && (f.ho && decide (f.h ≤ 1))
def setOut (f : Fx) : Bool := decide (f.wn = 1) && (f.so && decide (f.c = 0))
def giveUp (f : Fx) : Bool := !setOut f || decide (60 ≤ f.tm)
def fast (f : Fx) : Bool := decide (200 ≤ f.sp)
def turnBack (f : Fx) : Bool := !f.so || (decide (f.wn ≠ 1) || decide (f.sp < 120))
def back (f : Fx) : Bool := (f.so && decide (f.sp ≤ 60)) || decide (80 ≤ f.tm)

theorem implWantOk (m : Int) (w : World) :
    Calls Tryz.prog 50 #[.int .i64 m] w fun e w' => e = .returned (.bool (inb m 0 2)) ∧ w = w' := by
  go_enter Tryz.func50, Tryz.ntmps50
  go_wp2
  all_goals go_ret
  all_goals exact ⟨ret_bool (by unfold inb; simp <;> omega), rfl⟩
theorem implTimerOk (m : Int) (w : World) :
    Calls Tryz.prog 56 #[.int .i64 m] w fun e w' => e = .returned (.bool (inb m 0 1000)) ∧ w = w' := by
  go_enter Tryz.func56, Tryz.ntmps56
  go_wp2
  all_goals go_ret
  all_goals exact ⟨ret_bool (by unfold inb; simp <;> omega), rfl⟩

theorem specMode (m : Int) (w : World) :
    Calls Tryz.prog 144 #[.int .i64 m] w fun e w' => e = .returned (.bool (modeOk m)) ∧ w = w' := by
  go_enter Tryz.func144, Tryz.ntmps144
  go_wp2_with fail
  refine (fix.specIn m _ _ _).mono ?_
  rintro e w' ⟨rfl, rfl⟩
  go_wp2_with fail
  go_ret
  exact ⟨rfl, rfl⟩
theorem specWant (m : Int) (w : World) :
    Calls Tryz.prog 45 #[.int .i64 m] w fun e w' => e = .returned (.bool (inb m 0 2)) ∧ w = w' := by
  go_enter Tryz.func45, Tryz.ntmps45
  go_wp2_with fail
  refine (fix.specIn m _ _ _).mono ?_
  rintro e w' ⟨rfl, rfl⟩
  go_wp2_with fail
  go_ret
  exact ⟨rfl, rfl⟩
theorem specInAir (m : Int) (w : World) :
    Calls Tryz.prog 175 #[.int .i64 m] w fun e w' => e = .returned (.bool (inAir m)) ∧ w = w' := by
  go_enter Tryz.func175, Tryz.ntmps175
  go_wp2_with fail
  refine (fix.specIn m _ _ _).mono ?_
  rintro e w' ⟨rfl, rfl⟩
  go_wp2_with fail
  go_ret
  exact ⟨rfl, rfl⟩

end Go.Proofs.YtdikhdfpcipdbaaGreatDoor.md
