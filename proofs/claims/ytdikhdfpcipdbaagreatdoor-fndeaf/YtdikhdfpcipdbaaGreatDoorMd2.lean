/- Chapter 13: are the facts right; the ways out of a mode. -/
import Derived.Test.YtdikhdfpcipdbaaGreatDoorMd
namespace Go.Proofs.YtdikhdfpcipdbaaGreatDoor.md
open Go.ChangeShapes Go.WideShapes Go.ChangeAt Go.RowKit
open Go.Proofs.YtdikhdfpcipdbaaGreatDoor.nums Go.Proofs.YtdikhdfpcipdbaaGreatDoor.mem
open Go.Proofs.YtdikhdfpcipdbaaGreatDoor.fix (ret_int ret_bool)
open Go.Proofs.YtdikhdfpcipdbaaGreatDoor.tab (Ret quiet_w)
open Go.Proofs.YtdikhdfpcipdbaaGreatDoor.cas (caseOk)
set_option linter.unusedVariables false

theorem eight {w : World} {g : Nat} {t : TypeId} {a b c d e f h i : Value} (k : Has w g t #[a, b, c, d, e, f, h, i]) :
    w.cell? ⟨g, 0, none⟩ = some a ∧ w.cell? ⟨g, 1, none⟩ = some b ∧ w.cell? ⟨g, 2, none⟩ = some c ∧ w.cell? ⟨g, 3, none⟩ = some d ∧ w.cell? ⟨g, 4, none⟩ = some e ∧ w.cell? ⟨g, 5, none⟩ = some f ∧ w.cell? ⟨g, 6, none⟩ = some h ∧ w.cell? ⟨g, 7, none⟩ = some i :=
  ⟨k.cell 0, k.cell 1, k.cell 2, k.cell 3, k.cell 4, k.cell 5, k.cell 6, k.cell 7⟩
theorem free8 {w : World} {g : Nat} {t : TypeId} {a b c d e f h i : Value} (k : Has w g t #[a, b, c, d, e, f, h, i]) :
    w.frozen? ⟨g, 0, none⟩ = false ∧ w.frozen? ⟨g, 1, none⟩ = false ∧ w.frozen? ⟨g, 2, none⟩ = false ∧ w.frozen? ⟨g, 3, none⟩ = false ∧ w.frozen? ⟨g, 4, none⟩ = false ∧ w.frozen? ⟨g, 5, none⟩ = false ∧ w.frozen? ⟨g, 6, none⟩ = false ∧ w.frozen? ⟨g, 7, none⟩ = false :=
  ⟨k.frozen 0, k.frozen 1, k.frozen 2, k.frozen 3, k.frozen 4, k.frozen 5, k.frozen 6, k.frozen 7⟩

/-- The five questions, one behind the other: of the first that says no the rest are not asked. -/
theorem implFactsOk (f : Fx) (w : World) : Calls Tryz.prog 17 #[fac f] w (Ret (.bool (factsOk f)) w) := by
  have g0 := World.grownBy_alloc w (Obj.cells (cs8 f) 35) none
  have d0 := fix.implSizeOk f.sp
  have d1 := fix.implSizeOk f.h
  have d2 := cas.implCaseOk f.c
  have d3 := implWantOk f.wn
  have d4 := implTimerOk f.tm
  unfold factsOk
  generalize inb f.sp (-1000000) 1000000 = b0 at *
  generalize inb f.h (-1000000) 1000000 = b1 at *
  generalize caseOk f.c = b2 at *
  generalize inb f.wn 0 2 = b3 at *
  generalize inb f.tm 0 1000 = b4 at *
  cases b0 <;> cases b1 <;> cases b2 <;> cases b3
  all_goals go_enter Tryz.func17, Tryz.ntmps17
  all_goals go_wp2_with fail
  all_goals refine (d0 _).mono ?_
  all_goals rintro e w' ⟨rfl, rfl⟩
  all_goals go_wp2_with (first | (go_at_call 55; refine (d1 _).mono ?_; rintro e w' ⟨rfl, rfl⟩) | (go_at_call 33; refine (d2 _).mono ?_; rintro e w' ⟨rfl, rfl⟩) | (go_at_call 50; refine (d3 _).mono ?_; rintro e w' ⟨rfl, rfl⟩) | (go_at_call 56; refine (d4 _).mono ?_; rintro e w' ⟨rfl, rfl⟩))
  all_goals go_ret
  all_goals exact ⟨rfl, g0⟩
theorem specFactsOk (f : Fx) (w : World) : Calls Tryz.prog 174 #[fac f] w (Ret (.bool (factsOk f)) w) := by
  have g0 := World.grownBy_alloc w (Obj.cells (cs8 f) 35) none
  have d0 := fix.specSizeOk f.sp
  have d1 := fix.specSizeOk f.h
  have d2 := cas.specCaseOk f.c
  have d3 := specWant f.wn
  have d4 := fix.specIn f.tm 0 1000
  unfold factsOk
  generalize inb f.sp (-1000000) 1000000 = b0 at *
  generalize inb f.h (-1000000) 1000000 = b1 at *
  generalize caseOk f.c = b2 at *
  generalize inb f.wn 0 2 = b3 at *
  generalize inb f.tm 0 1000 = b4 at *
  cases b0 <;> cases b1 <;> cases b2 <;> cases b3
  all_goals go_enter Tryz.func174, Tryz.ntmps174
  all_goals go_wp2_with fail
  all_goals refine (d0 _).mono ?_
  all_goals rintro e w' ⟨rfl, rfl⟩
  all_goals go_wp2_with (first | (go_at_call 78; refine (d1 _).mono ?_; rintro e w' ⟨rfl, rfl⟩) | (go_at_call 46; refine (d2 _).mono ?_; rintro e w' ⟨rfl, rfl⟩) | (go_at_call 45; refine (d3 _).mono ?_; rintro e w' ⟨rfl, rfl⟩) | (go_at_call 24; refine (d4 _).mono ?_; rintro e w' ⟨rfl, rfl⟩))
  all_goals go_ret
  all_goals exact ⟨rfl, g0⟩

end Go.Proofs.YtdikhdfpcipdbaaGreatDoor.md
