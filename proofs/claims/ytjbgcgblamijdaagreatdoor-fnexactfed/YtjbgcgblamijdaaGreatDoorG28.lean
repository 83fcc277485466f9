/- Chapter 10, the small functions: cases, who is across, who stays on; of the program and of the model. Chapter 13 on plain facts: the modes, what is asked, the ways out of each; the small functions of both sides. -/
import Derived.Test.YtjbgcgblamijdaaGreatDoorG7
import Derived.Test.YtjbgcgblamijdaaGreatDoorG1
import Derived.Test.YtjbgcgblamijdaaGreatDoorG2
import Derived.WalkMore
import Derived.Deep.RegionHeldLaw
import Derived.Deep.RegionHeld3
/- Chapter 10, the small functions: cases, who is across, who stays on; of the program and of the model. -/
namespace Go.Proofs.YtjbgcgblamijdaaGreatDoor.cas
open Go.ChangeShapes Go.WideShapes Go.ChangeAt Go.RowKit
open Go.Proofs.YtjbgcgblamijdaaGreatDoor.nums Go.Proofs.YtjbgcgblamijdaaGreatDoor.mem
open Go.Proofs.YtjbgcgblamijdaaGreatDoor.fix (ret_int ret_bool)
open Go.Proofs.YtjbgcgblamijdaaGreatDoor.il (nth)
set_option linter.unusedVariables false

def across (f : Int) : Int := if 0 ≤ f ∧ f ≤ 5 then (f + 3) % 6 else -1
def caseOk (c : Int) : Bool := inb c 0 7
def staysOn (c f : Int) : Bool := decide (0 ≤ c ∧ c ≤ 6 ∧ 0 ≤ f ∧ f ≤ 5 ∧ (c = 0 ∨ f ≠ c - 1 ∧ f ≠ across (c - 1)))
def caseOf (l : List Int) : Int := if l = [] then 0 else if l.length = 1 ∧ 0 ≤ nth l 0 ∧ nth l 0 ≤ 5 then nth l 0 + 1 else 7
/-- Which of the first k stay on. -/
def staysTo (c : Int) (k : Nat) : List Int := ((List.range k).filter fun j : Nat => staysOn c (j : Int)).map fun j : Nat => (j : Int)
def staysIn (c : Int) : List Int := staysTo c 6

theorem across_yes {f : Int} (h0 : 0 ≤ f) (h1 : f ≤ 5) : across f = (f + 3) % 6 := if_pos ⟨h0, h1⟩
theorem across_no {f : Int} (h : f < 0 ∨ 5 < f) : across f = -1 := if_neg (by omega)
theorem to_yes {c : Int} {k : Nat} (h : staysOn c k = true) : staysTo c (k + 1) = staysTo c k ++ [(k : Int)] := by
  unfold staysTo; rw [List.range_succ, List.filter_append, List.map_append]; simp [h]
theorem to_no {c : Int} {k : Nat} (h : staysOn c k = false) : staysTo c (k + 1) = staysTo c k := by
  unfold staysTo; rw [List.range_succ, List.filter_append, List.map_append]; simp [h]
theorem to_len (c : Int) (k : Nat) : (staysTo c k).length ≤ k := by
  unfold staysTo; rw [List.length_map]; exact Nat.le_trans (List.length_filter_le _ _) (by simp)

theorem implCaseOk (c : Int) (w : World) :
    Calls Tryz.prog 43 #[.int .i64 c] w fun e w' => e = .returned (.bool (caseOk c)) ∧ w = w' := by
  go_enter Tryz.func43, Tryz.ntmps43
  go_wp2
  all_goals go_ret
  all_goals exact ⟨ret_bool (by unfold caseOk inb; simp <;> omega), rfl⟩

theorem specCaseOk (c : Int) (w : World) :
    Calls Tryz.prog 56 #[.int .i64 c] w fun e w' => e = .returned (.bool (caseOk c)) ∧ w = w' := by
  go_enter Tryz.func56, Tryz.ntmps56
  go_wp2_with fail
  refine (fix.specIn c _ _ _).mono ?_
  rintro e w' ⟨rfl, rfl⟩
  go_wp2_with fail
  go_ret
  exact ⟨rfl, rfl⟩

theorem specAcross (f : Int) (w : World) :
    Calls Tryz.prog 220 #[.int .i64 f] w fun e w' => e = .returned (.int .i64 (across f)) ∧ w = w' := by
  go_enter Tryz.func220, Tryz.ntmps220
  go_wp2_with fail
  refine (fix.specIn f _ _ _).mono ?_
  rintro e w' ⟨rfl, rfl⟩
  by_cases h : 0 ≤ f ∧ f ≤ 5
  · rw [show inb f 0 5 = true by unfold inb; simp; omega]
    go_wp2_with fail
    go_ret
    exact ⟨ret_int (by rw [across_yes h.1 h.2]), rfl⟩
  · rw [show inb f 0 5 = false by unfold inb; simp; omega]
    go_wp2_with fail
    go_ret
    exact ⟨ret_int (by rw [across_no (by omega)]), rfl⟩

/-- Of one fan's case: out is that fan, x the one across from it. -/
theorem on_one {c f out x : Int} (h0 : 1 ≤ c) (h1 : c ≤ 6) (ho : out = c - 1) (hx : across out = x) : staysOn c f = (decide (f ≠ out) && (decide (f ≠ x) && inb f 0 5)) := by
  subst ho
  unfold staysOn inb
  rw [hx, Bool.eq_iff_iff]
  simp
  omega
theorem on_none (f : Int) : staysOn 0 f = inb f 0 5 := by unfold staysOn inb; simp
theorem on_no {c f : Int} (h : c < 0 ∨ 6 < c) : staysOn c f = false := by unfold staysOn; simp; omega

set_option maxHeartbeats 1000000 in
theorem specStaysOn (c f : Int) (w : World) :
    Calls Tryz.prog 217 #[.int .i64 c, .int .i64 f] w fun e w' => e = .returned (.bool (staysOn c f)) ∧ w = w' := by
  by_cases h : 0 ≤ c ∧ c ≤ 6
  · have k1 : caseOk c = true := by unfold caseOk inb; simp; omega
    by_cases hf : 0 ≤ f ∧ f ≤ 5
    · have k2 : inb f 0 5 = true := by unfold inb; simp; omega
      have h7 : decide (c = 7) = false := by simp; omega
      by_cases h0 : c = 0
      · subst h0
        rw [on_none, k2]
        go_enter Tryz.func217, Tryz.ntmps217
        go_wp2_with (first | (go_at_call 56; refine (specCaseOk _ _).mono ?_; rw [k1]; rintro e w' ⟨rfl, rfl⟩) | (go_at_call 34; refine (fix.specIn f _ _ _).mono ?_; rw [k2]; rintro e w' ⟨rfl, rfl⟩))
        go_ret
        exact ⟨rfl, rfl⟩
      · obtain ⟨x, hx⟩ : ∃ x, across (c - 1) = x := ⟨_, rfl⟩
        rw [on_one (by omega) h.2 rfl hx, k2, Bool.and_true]
        have cA : ∀ W, Calls Tryz.prog 220 #[.int .i64 (c - 1)] W fun e w' => e = .returned (.int .i64 x) ∧ W = w' := fun W => hx ▸ specAcross (c - 1) W
        clear hx
        have h0' : decide (c = 0) = false := by simp [h0]
        go_enter Tryz.func217, Tryz.ntmps217
        go_wp2_with (first | (go_at_call 56; refine (specCaseOk _ _).mono ?_; rw [k1]; rintro e w' ⟨rfl, rfl⟩) | (go_at_call 34; refine (fix.specIn f _ _ _).mono ?_; rw [k2]; rintro e w' ⟨rfl, rfl⟩) | (go_at_call 220; refine (cA _).mono ?_; rintro e w' ⟨rfl, rfl⟩))
        all_goals go_ret
        all_goals exact ⟨ret_bool (by rw [Bool.eq_iff_iff]; simp; omega), rfl⟩
    · have k2 : inb f 0 5 = false := by unfold inb; simp; omega
      have e : staysOn c f = false := by unfold staysOn; simp; omega
      rw [e]
      go_enter Tryz.func217, Tryz.ntmps217
      go_wp2_with (first | (go_at_call 56; refine (specCaseOk _ _).mono ?_; rw [k1]; rintro e w' ⟨rfl, rfl⟩) | (go_at_call 34; refine (fix.specIn f _ _ _).mono ?_; rw [k2]; rintro e w' ⟨rfl, rfl⟩))
      go_ret
      exact ⟨rfl, rfl⟩
  · rw [on_no (by omega)]
    by_cases h7 : c = 7
    · subst h7
      have k1 : caseOk 7 = true := rfl
      obtain ⟨k, hk⟩ : ∃ k, inb f 0 5 = k := ⟨_, rfl⟩
      cases k
      all_goals go_enter Tryz.func217, Tryz.ntmps217
      all_goals go_wp2_with (first | (go_at_call 56; refine (specCaseOk _ _).mono ?_; rw [k1]; rintro e w' ⟨rfl, rfl⟩) | (go_at_call 34; refine (fix.specIn f _ _ _).mono ?_; rw [hk]; rintro e w' ⟨rfl, rfl⟩))
      all_goals go_ret
      all_goals exact ⟨rfl, rfl⟩
    · have k1 : caseOk c = false := by unfold caseOk inb; simp; omega
      go_enter Tryz.func217, Tryz.ntmps217
      go_wp2_with (first | (go_at_call 56; refine (specCaseOk _ _).mono ?_; rw [k1]; rintro e w' ⟨rfl, rfl⟩))
      go_ret
      exact ⟨rfl, rfl⟩
end Go.Proofs.YtjbgcgblamijdaaGreatDoor.cas

/- Chapter 13 on plain facts: the modes, what is asked, the ways out of each; the small functions of both sides. -/
namespace Go.Proofs.YtjbgcgblamijdaaGreatDoor.md
open Go.ChangeShapes Go.WideShapes Go.ChangeAt Go.RowKit
open Go.Proofs.YtjbgcgblamijdaaGreatDoor.nums Go.Proofs.YtjbgcgblamijdaaGreatDoor.mem
open Go.Proofs.YtjbgcgblamijdaaGreatDoor.fix (ret_int ret_bool)
open Go.Proofs.YtjbgcgblamijdaaGreatDoor.tab (Ret quiet_w)
open Go.Proofs.YtjbgcgblamijdaaGreatDoor.cas (caseOk)
set_option linter.unusedVariables false

/-- What is known: the speed and whether it is, the height and whether it is, the case, armed, the want, the timer. -/
structure Fx where
  sp : Int
  so : Bool
  h : Int
  ho : Bool
  c : Int
  ar : Bool
  wn : Int
  tm : Int
/-- Its cells, and the value. -/
abbrev cs8 (f : Fx) : Array Value := #[.int .i64 f.sp, .bool f.so, .int .i64 f.h, .bool f.ho, .int .i64 f.c, .bool f.ar, .int .i64 f.wn, .int .i64 f.tm]
abbrev fac (f : Fx) : Value := .agg #[.int .i64 f.sp, .bool f.so, .int .i64 f.h, .bool f.ho, .int .i64 f.c, .bool f.ar, .int .i64 f.wn, .int .i64 f.tm]

def factsOk (f : Fx) : Bool := inb f.sp (-1000000) 1000000 && (inb f.h (-1000000) 1000000 && (caseOk f.c && (inb f.wn 0 2 && inb f.tm 0 1000)))
def modeOk (m : Int) : Bool := inb m 0 5
def inAir (m : Int) : Bool := inb m 1 4

def many (f : Fx) : Bool := decide (f.c = 7)
def rise (f : Fx) : Bool := f.ar && (f.so && (f.ho && decide (f.c = 0)))
def landed (f : Fx) : Bool := decide (f.wn = 2) && (f.ho && decide (f.h ≤ 1))
def setOut (f : Fx) : Bool := decide (f.wn = 1) && (f.so && decide (f.c = 0))
def giveUp (f : Fx) : Bool := !setOut f || decide (60 ≤ f.tm)
def fast (f : Fx) : Bool := decide (200 ≤ f.sp)
def turnBack (f : Fx) : Bool := !f.so || (decide (f.wn ≠ 1) || decide (f.sp < 120))
def back (f : Fx) : Bool := (f.so && decide (f.sp ≤ 60)) || decide (80 ≤ f.tm)

theorem implWantOk (m : Int) (w : World) :
    Calls Tryz.prog 60 #[.int .i64 m] w fun e w' => e = .returned (.bool (inb m 0 2)) ∧ w = w' := by
  go_enter Tryz.func60, Tryz.ntmps60
  go_wp2
  all_goals go_ret
  all_goals exact ⟨ret_bool (by unfold inb; simp <;> omega), rfl⟩
theorem implTimerOk (m : Int) (w : World) :
    Calls Tryz.prog 66 #[.int .i64 m] w fun e w' => e = .returned (.bool (inb m 0 1000)) ∧ w = w' := by
  go_enter Tryz.func66, Tryz.ntmps66
  go_wp2
  all_goals go_ret
  all_goals exact ⟨ret_bool (by unfold inb; simp <;> omega), rfl⟩

theorem specMode (m : Int) (w : World) :
    Calls Tryz.prog 169 #[.int .i64 m] w fun e w' => e = .returned (.bool (modeOk m)) ∧ w = w' := by
  go_enter Tryz.func169, Tryz.ntmps169
  go_wp2_with fail
  refine (fix.specIn m _ _ _).mono ?_
  rintro e w' ⟨rfl, rfl⟩
  go_wp2_with fail
  go_ret
  exact ⟨rfl, rfl⟩
theorem specWant (m : Int) (w : World) :
    Calls Tryz.prog 55 #[.int .i64 m] w fun e w' => e = .returned (.bool (inb m 0 2)) ∧ w = w' := by
  go_enter Tryz.func55, Tryz.ntmps55
  go_wp2_with fail
  refine (fix.specIn m _ _ _).mono ?_
  rintro e w' ⟨rfl, rfl⟩
  go_wp2_with fail
  go_ret
  exact ⟨rfl, rfl⟩
theorem specInAir (m : Int) (w : World) :
    Calls Tryz.prog 200 #[.int .i64 m] w fun e w' => e = .returned (.bool (inAir m)) ∧ w = w' := by
  go_enter Tryz.func200, Tryz.ntmps200
  go_wp2_with fail
  refine (fix.specIn m _ _ _).mono ?_
  rintro e w' ⟨rfl, rfl⟩
  go_wp2_with fail
  go_ret
  exact ⟨rfl, rfl⟩

end Go.Proofs.YtjbgcgblamijdaaGreatDoor.md

