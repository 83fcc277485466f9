/- Chapter 13 on plain facts: the modes, what is asked, the ways out of each; the small functions of both sides. -/
import Derived.Test.YtaakbjijdanenaaCa
import Derived.Test.YtaakbjijdanenaaCur2
import Derived.Deep.RegionHeldLaw
import Derived.Deep.RegionHeld3
namespace Go.Proofs.Ytaakbjijdanenaa.md
open Go.ChangeShapes Go.WideShapes Go.ChangeAt Go.RowKit
open Go.Proofs.Ytaakbjijdanenaa.nums Go.Proofs.Ytaakbjijdanenaa.mem
open Go.Proofs.Ytaakbjijdanenaa.fix (ret_int ret_bool)
open Go.Proofs.Ytaakbjijdanenaa.tab (Ret quiet_w)
open Go.Proofs.Ytaakbjijdanenaa.cas (caseOk)
set_option linter.unusedVariables false

/-- What is known: the speed and whether it is, the height and whether it is, the case, armed, the want, the timer. -/
structure Fx where
  sp : Int
  so : Bool
  h : Int
  ho : Bool
  c : Int
  ar : Bool
  wn : Int
  tm : Int
/-- Its cells, and the value. -/
abbrev cs8 (f : Fx) : Array Value := #[.int .i64 f.sp, .bool f.so, .int .i64 f.h, .bool f.ho, .int .i64 f.c, .bool f.ar, .int .i64 f.wn, .int .i64 f.tm]
abbrev fac (f : Fx) : Value := .agg #[.int .i64 f.sp, .bool f.so, .int .i64 f.h, .bool f.ho, .int .i64 f.c, .bool f.ar, .int .i64 f.wn, .int .i64 f.tm]

def factsOk (f : Fx) : Bool := inb f.sp (-1000000) 1000000 && (inb f.h (-1000000) 1000000 && (caseOk f.c && (inb f.wn 0 2 && inb f.tm 0 1000)))
def modeOk (m : Int) : Bool := inb m 0 5
def inAir (m : Int) : Bool := inb m 1 4

def many (f : Fx) : Bool := decide (f.c = 7)
def rise (f : Fx) : Bool := f.ar && (f.so && (f.ho && decide (f.c = 0)))
def landed (f : Fx) : Bool := decide (f.wn = 2) && (f.ho && decide (f.h ≤ 1))
def setOut (f : Fx) : Bool := decide (f.wn = 1) && (f.so && decide (f.c = 0))
def giveUp (f : Fx) : Bool := !setOut f || decide (60 ≤ f.tm)
def fast (f : Fx) : Bool := decide (200 ≤ f.sp)
def turnBack (f : Fx) : Bool := !f.so || (decide (f.wn ≠ 1) || decide (f.sp < 120))
def back (f : Fx) : Bool := (f.so && decide (f.sp ≤ 60)) || decide (80 ≤ f.tm)

theorem implModeOk (m : Int) (w : World) :
    Calls Try.prog 24 #[.int .i64 m] w fun e w' => e = .returned (.bool (modeOk m)) ∧ w = w' := by
  go_enter Try.func24, Try.ntmps24
  go_wp2
  all_goals go_ret
  all_goals exact ⟨ret_bool (by unfold modeOk inb; simp <;> omega), rfl⟩
theorem implInAir (m : Int) (w : World) :
    Calls Try.prog 16 #[.int .i64 m] w fun e w' => e = .returned (.bool (inAir m)) ∧ w = w' := by
  go_enter Try.func16, Try.ntmps16
  go_wp2
  all_goals go_ret
  all_goals exact ⟨ret_bool (by unfold inAir inb; simp <;> omega), rfl⟩
theorem implWantOk (m : Int) (w : World) :
    Calls Try.prog 31 #[.int .i64 m] w fun e w' => e = .returned (.bool (inb m 0 2)) ∧ w = w' := by
  go_enter Try.func31, Try.ntmps31
  go_wp2
  all_goals go_ret
  all_goals exact ⟨ret_bool (by unfold inb; simp <;> omega), rfl⟩
theorem implTimerOk (m : Int) (w : World) :
    Calls Try.prog 32 #[.int .i64 m] w fun e w' => e = .returned (.bool (inb m 0 1000)) ∧ w = w' := by
  go_enter Try.func32, Try.ntmps32
  go_wp2
  all_goals go_ret
  all_goals exact ⟨ret_bool (by unfold inb; simp <;> omega), rfl⟩

theorem specMode (m : Int) (w : World) :
    Calls Try.prog 26 #[.int .i64 m] w fun e w' => e = .returned (.bool (modeOk m)) ∧ w = w' := by
  go_enter Try.func26, Try.ntmps26
  go_wp2_with fail
  refine (fix.specIn m _ _ _).mono ?_
  rintro e w' ⟨rfl, rfl⟩
  go_wp2_with fail
  go_ret
  exact ⟨rfl, rfl⟩
theorem specWant (m : Int) (w : World) :
    Calls Try.prog 35 #[.int .i64 m] w fun e w' => e = .returned (.bool (inb m 0 2)) ∧ w = w' := by
  go_enter Try.func35, Try.ntmps35
  go_wp2_with fail
  refine (fix.specIn m _ _ _).mono ?_
  rintro e w' ⟨rfl, rfl⟩
  go_wp2_with fail
  go_ret
  exact ⟨rfl, rfl⟩
theorem specInAir (m : Int) (w : World) :
    Calls Try.prog 17 #[.int .i64 m] w fun e w' => e = .returned (.bool (inAir m)) ∧ w = w' := by
  go_enter Try.func17, Try.ntmps17
  go_wp2_with fail
  refine (fix.specIn m _ _ _).mono ?_
  rintro e w' ⟨rfl, rfl⟩
  go_wp2_with fail
  go_ret
  exact ⟨rfl, rfl⟩

theorem implMany (f : Fx) (w : World) : Calls Try.prog 39 #[fac f] w (Ret (.bool (many f)) w) := by
  go_enter Try.func39, Try.ntmps39
  go_wp2
  go_ret
  exact ⟨rfl, World.grownBy_alloc _ _ _⟩
theorem implRise (f : Fx) (w : World) : Calls Try.prog 40 #[fac f] w (Ret (.bool (rise f)) w) := by
  go_enter Try.func40, Try.ntmps40
  go_wp2
  all_goals go_ret
  all_goals exact ⟨ret_bool (by unfold rise; rw [Bool.eq_iff_iff]; simp [*]), World.grownBy_alloc _ _ _⟩
theorem implLanded (f : Fx) (w : World) : Calls Try.prog 41 #[fac f] w (Ret (.bool (landed f)) w) := by
  go_enter Try.func41, Try.ntmps41
  go_wp2
  all_goals go_ret
  all_goals exact ⟨ret_bool (by unfold landed; simp [*]), World.grownBy_alloc _ _ _⟩
theorem implSetOut (f : Fx) (w : World) : Calls Try.prog 42 #[fac f] w (Ret (.bool (setOut f)) w) := by
  go_enter Try.func42, Try.ntmps42
  go_wp2
  all_goals go_ret
  all_goals exact ⟨ret_bool (by unfold setOut; rw [Bool.eq_iff_iff]; simp [*]), World.grownBy_alloc _ _ _⟩
theorem implFast (f : Fx) (w : World) : Calls Try.prog 44 #[fac f] w (Ret (.bool (fast f)) w) := by
  go_enter Try.func44, Try.ntmps44
  go_wp2
  all_goals go_ret
  all_goals exact ⟨ret_bool (by unfold fast; simp [*]), World.grownBy_alloc _ _ _⟩
theorem implTurnBack (f : Fx) (w : World) : Calls Try.prog 45 #[fac f] w (Ret (.bool (turnBack f)) w) := by
  go_enter Try.func45, Try.ntmps45
  go_wp2
  all_goals go_ret
  all_goals exact ⟨ret_bool (by unfold turnBack; simp [*]), World.grownBy_alloc _ _ _⟩
theorem implBack (f : Fx) (w : World) : Calls Try.prog 46 #[fac f] w (Ret (.bool (back f)) w) := by
  go_enter Try.func46, Try.ntmps46
  go_wp2
  all_goals go_ret
  all_goals exact ⟨ret_bool (by unfold back; simp [*]), World.grownBy_alloc _ _ _⟩
end Go.Proofs.Ytaakbjijdanenaa.md
