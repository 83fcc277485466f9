/- Chapter 13: the ways out of each mode, as the program's table has them; what the first one that applies leads to. NextMode and MayFollow of the program: the first way that applies; is there a way. NextMode and MayFollow of the model. Gated of the program. -/
import Derived.Test.YtdikhdfpcipdbaaGreatDoorG17
import Derived.Laws.EntriesVeiled
import Derived.Shelf.Abstract
import Derived.Deep.DeepCutAuto
import Derived.Test.YtdikhdfpcipdbaaGreatDoorG18
import Derived.Test.YtdikhdfpcipdbaaGreatDoorG13
/- Chapter 13: the ways out of each mode, as the program's table has them; what the first one that applies leads to. -/
namespace Go.Proofs.YtdikhdfpcipdbaaGreatDoor.md
open Go.ChangeShapes Go.WideShapes Go.ChangeAt Go.RowKit
open Go.Proofs.YtdikhdfpcipdbaaGreatDoor.nums Go.Proofs.YtdikhdfpcipdbaaGreatDoor.mem
open Go.Proofs.YtdikhdfpcipdbaaGreatDoor.fix (ret_int ret_bool)
open Go.Proofs.YtdikhdfpcipdbaaGreatDoor.tab (Ret quiet_w)
open Go.Proofs.YtdikhdfpcipdbaaGreatDoor.cas (caseOk)
set_option linter.unusedVariables false

/-- A way: where to, and which of the eight questions. -/
abbrev W2 := Int × Nat
def ways (m : Int) : List W2 :=
  if m = 0 then [(1, 1)] else if m = 1 then [(5, 0), (0, 2), (2, 3)] else if m = 2 then [(5, 0), (4, 4), (3, 5)] else if m = 3 then [(5, 0), (4, 6)] else if m = 4 then [(5, 0), (1, 7)] else []
/-- The answer to the i-th question, and the number of its function. -/
def cnd (f : Fx) (i : Nat) : Bool := [many f, rise f, landed f, setOut f, giveUp f, fast f, turnBack f, back f].getD i false
/-- Where the first way that applies leads to; else m. -/
def first (f : Fx) (m : Int) : List W2 → Int
  | [] => m
  | x :: r => if cnd f x.2 = true then x.1 else first f m r
def nextMode (m : Int) (f : Fx) : Int := if (modeOk m && factsOk f) = true then first f m (ways m) else 0
theorem six {m : Int} (h : modeOk m = true) : m = 0 ∨ m = 1 ∨ m = 2 ∨ m = 3 ∨ m = 4 ∨ m = 5 := by unfold modeOk inb at h; simp at h; omega
end Go.Proofs.YtdikhdfpcipdbaaGreatDoor.md

/- NextMode and MayFollow of the program: the first way that applies; is there a way. -/
namespace Go.Proofs.YtdikhdfpcipdbaaGreatDoor.md
open Go.ChangeShapes Go.WideShapes Go.ChangeAt Go.RowKit
open Go.Proofs.YtdikhdfpcipdbaaGreatDoor.nums Go.Proofs.YtdikhdfpcipdbaaGreatDoor.mem
open Go.Proofs.YtdikhdfpcipdbaaGreatDoor.fix (ret_int ret_bool)
open Go.Proofs.YtdikhdfpcipdbaaGreatDoor.tab (Ret quiet_w)
open Go.Proofs.YtdikhdfpcipdbaaGreatDoor.cas (caseOk)
set_option linter.unusedVariables false

theorem next_no {m : Int} {f : Fx} (h : (modeOk m && factsOk f) = false) : nextMode m f = 0 := by unfold nextMode; rw [h]; rfl
theorem next_yes {m : Int} {f : Fx} (h1 : modeOk m = true) (h2 : factsOk f = true) : nextMode m f = first f m (ways m) := by unfold nextMode; rw [h1, h2]; rfl

end Go.Proofs.YtdikhdfpcipdbaaGreatDoor.md

/- NextMode and MayFollow of the model. -/
namespace Go.Proofs.YtdikhdfpcipdbaaGreatDoor.md
open Go.ChangeShapes Go.WideShapes Go.ChangeAt Go.RowKit
open Go.Proofs.YtdikhdfpcipdbaaGreatDoor.nums Go.Proofs.YtdikhdfpcipdbaaGreatDoor.mem
open Go.Proofs.YtdikhdfpcipdbaaGreatDoor.fix (ret_int ret_bool)
open Go.Proofs.YtdikhdfpcipdbaaGreatDoor.tab (Ret quiet_w)
open Go.Proofs.YtdikhdfpcipdbaaGreatDoor.cas (caseOk)
set_option linter.unusedVariables false

/-- Of a mode in the air, and not of many that fail. -/
def nx (m : Int) (f : Fx) : Int :=
  if m = 1 then (if landed f = true then 0 else if setOut f = true then 2 else 1)
  else if m = 2 then (if giveUp f = true then 4 else if fast f = true then 3 else 2)
  else if m = 3 then (if turnBack f = true then 4 else 3)
  else if m = 4 then (if back f = true then 1 else 4)
  else m

set_option maxHeartbeats 1000000 in
theorem specNext (m : Int) (f : Fx) (w : World) : Calls Tryz.prog 176 #[.int .i64 m, fac f] w (Ret (.int .i64 (nx m f)) w) := by
  by_cases h1 : m = 1
  · subst h1
    go_enter Tryz.func176, Tryz.ntmps176
    go_wp2
    all_goals go_ret
    all_goals exact ⟨ret_int (by unfold nx landed setOut; simp_all), World.grownBy_alloc _ _ _⟩
  · by_cases h2 : m = 2
    · subst h2
      go_enter Tryz.func176, Tryz.ntmps176
      go_wp2
      all_goals go_ret
      all_goals exact ⟨ret_int (by unfold nx giveUp setOut fast; first | (simp_all; done) | (simp_all; omega)), World.grownBy_alloc _ _ _⟩
    · by_cases h3 : m = 3
      · subst h3
        go_enter Tryz.func176, Tryz.ntmps176
        go_wp2
        all_goals go_ret
        all_goals exact ⟨ret_int (by unfold nx turnBack; simp_all), World.grownBy_alloc _ _ _⟩
      · by_cases h4 : m = 4
        · subst h4
          go_enter Tryz.func176, Tryz.ntmps176
          go_wp2
          all_goals go_ret
          all_goals exact ⟨ret_int (by unfold nx back; simp_all), World.grownBy_alloc _ _ _⟩
        · have d1 : (m == 1) = false := by simp [h1]
          have d2 : (m == 2) = false := by simp [h2]
          have d3 : (m == 3) = false := by simp [h3]
          have d4 : (m == 4) = false := by simp [h4]
          go_enter Tryz.func176, Tryz.ntmps176
          go_wp2
          all_goals go_ret
          all_goals exact ⟨ret_int (by unfold nx; simp_all), World.grownBy_alloc _ _ _⟩

theorem next_is {m : Int} (f : Fx) (h : modeOk m = true) : first f m (ways m) = if (decide (m = 0) && rise f) = true then 1 else if (inAir m && many f) = true then 5 else nx m f := by
  rcases six h with rfl | rfl | rfl | rfl | rfl | rfl
  · have e : ways 0 = [(1, 1)] := rfl
    have e2 : inAir 0 = false := rfl
    have e3 : nx 0 f = 0 := rfl
    rw [e, e2, e3]
    cases hr : rise f <;> simp [first, cnd, hr]
  · have e : ways 1 = [(5, 0), (0, 2), (2, 3)] := rfl
    have e2 : inAir 1 = true := rfl
    rw [e, e2]
    cases hm : many f <;> simp [first, cnd, hm, nx]
  · have e : ways 2 = [(5, 0), (4, 4), (3, 5)] := rfl
    have e2 : inAir 2 = true := rfl
    rw [e, e2]
    cases hm : many f <;> simp [first, cnd, hm, nx]
  · have e : ways 3 = [(5, 0), (4, 6)] := rfl
    have e2 : inAir 3 = true := rfl
    rw [e, e2]
    cases hm : many f <;> simp [first, cnd, hm, nx]
  · have e : ways 4 = [(5, 0), (1, 7)] := rfl
    have e2 : inAir 4 = true := rfl
    rw [e, e2]
    cases hm : many f <;> simp [first, cnd, hm, nx]
  · have e : ways 5 = [] := rfl
    have e2 : inAir 5 = false := rfl
    rw [e, e2]
    simp [first, nx]

set_option maxHeartbeats 1000000 in
theorem specNextMode (m : Int) (f : Fx) (w : World) : Calls Tryz.prog 163 #[.int .i64 m, fac f] w (Ret (.int .i64 (nextMode m f)) w) := by
  have A0 := Has.fresh w 35 (cs8 f)
  have g0 := World.grownBy_alloc w (Obj.cells (cs8 f) 35) none
  have cM := specMode m
  have cF := specFactsOk f
  cases h2 : factsOk f
  · rw [h2] at cF
    rw [next_no (by rw [h2, Bool.and_false])]
    clear h2
    go_enter Tryz.func163, Tryz.ntmps163
    go_wp2_with fail
    refine (cF _).mono ?_
    rintro e w1 ⟨rfl, g1⟩
    go_wp2_with fail
    go_ret
    exact ⟨rfl, gr_trans g0 g1⟩
  · rw [h2] at cF
    cases h1 : modeOk m
    · rw [h1] at cM
      rw [next_no (by rw [h1]; rfl)]
      clear h1 h2
      go_enter Tryz.func163, Tryz.ntmps163
      go_wp2_with fail
      refine (cF _).mono ?_
      rintro e w1 ⟨rfl, g1⟩
      go_wp2_with fail
      refine (cM _).mono ?_
      rintro e w' ⟨rfl, rfl⟩
      go_wp2_with fail
      go_ret
      exact ⟨rfl, gr_trans g0 g1⟩
    · rw [h1] at cM
      rw [next_yes h1 h2, next_is f h1]
      have cA := specInAir m
      have cN := specNext m f
      generalize inAir m = a at *
      generalize nx m f = N at *
      clear h1 h2
      obtain ⟨r, hr⟩ : ∃ r, (decide (m = 0) && rise f) = r := ⟨_, rfl⟩
      obtain ⟨y, hy⟩ : ∃ y, many f = y := ⟨_, rfl⟩
      rw [hr, hy]
      obtain ⟨V, hV⟩ : ∃ V, (if r = true then 1 else if (a && y) = true then 5 else N) = V := ⟨_, rfl⟩
      rw [hV]
      replace hr := Lib.hid hr
      replace hy := Lib.hid hy
      replace hV := Lib.hid hV
      go_enter Tryz.func163, Tryz.ntmps163
      go_wp2_with fail
      refine (cF _).mono ?_
      rintro e w1 ⟨rfl, g1⟩
      replace A0 := A0.grown g1 (by simp)
      replace g0 := gr_trans g0 g1
      clear g1 cF
      obtain ⟨a0, a1, a2, a3, a4, a5, a6, a7⟩ := eight A0
      go_wp2_with fail
      refine (cM _).mono ?_
      rintro e w' ⟨rfl, rfl⟩
      clear cM
      go_upto_region 3 with fail
      go_cut [31] (fun x wx => x = .bool r ∧ w1 = wx)
      case first =>
        by_cases h0 : m = 0
        · subst h0
          go_wp2
          all_goals go_meet
          all_goals exact ⟨congrArg Value.bool (by rw [← hr.out]; unfold rise; rw [Bool.eq_iff_iff]; simp_all), rfl⟩
        · have hd : (m == 0) = false := by simp [h0]
          go_wp2
          all_goals go_meet
          all_goals exact ⟨congrArg Value.bool (by rw [← hr.out]; simp [h0]), rfl⟩
      case rest =>
        obtain ⟨rfl, rfl⟩ := hcut
        clear hr
        cases r
        · go_wp2_with fail
          refine (cA _).mono ?_
          rintro e w' ⟨rfl, rfl⟩
          cases a
          · go_wp2_with fail
            refine (cN _).mono ?_
            rintro e w2 ⟨rfl, g2⟩
            go_wp2_with fail
            go_ret
            exact ⟨ret_int (by rw [← hV.out]; rfl), gr_trans g0 g2⟩
          · by_cases h7 : f.c = 7
            · have hd : (f.c == 7) = true := by simp [h7]
              have e7 : Hid (many f = true) := Lib.hid (by unfold many; simp [h7])
              go_wp2_with fail
              go_ret
              exact ⟨ret_int (by rw [← hV.out, ← hy.out, e7.out]; rfl), g0⟩
            · have hd : (f.c == 7) = false := by simp [h7]
              have e7 : Hid (many f = false) := Lib.hid (by unfold many; simp [h7])
              go_wp2_with fail
              refine (cN _).mono ?_
              rintro e w2 ⟨rfl, g2⟩
              go_wp2_with fail
              go_ret
              exact ⟨ret_int (by rw [← hV.out, ← hy.out, e7.out]; rfl), gr_trans g0 g2⟩
        · go_wp2_with fail
          go_ret
          exact ⟨ret_int (by rw [← hV.out]; rfl), g0⟩

end Go.Proofs.YtdikhdfpcipdbaaGreatDoor.md

/- Gated of the program. -/
namespace Go.Proofs.YtdikhdfpcipdbaaGreatDoor.gt
open Go.ChangeShapes Go.WideShapes Go.ChangeAt Go.RowKit
open Go.Extern.Stop Go.Stop Go.Extern
open Go.Proofs.YtdikhdfpcipdbaaGreatDoor.nums Go.Proofs.YtdikhdfpcipdbaaGreatDoor.mem
open Go.Proofs.YtdikhdfpcipdbaaGreatDoor.fix (ret_int ret_bool)
open Go.Proofs.YtdikhdfpcipdbaaGreatDoor.tab (Ret quiet_w)
open Go.Proofs.YtdikhdfpcipdbaaGreatDoor.md (Fx cs8 fac factsOk eight)
open Go.Proofs.YtdikhdfpcipdbaaGreatDoor.qt (region_below_tail rg_ret rg_same gr_rg)
set_option linter.unusedVariables false

/-- The three boxes that Gated lays at its start. -/
abbrev w3 (w : World) (g : G) (f : Fx) : World := ((w.alloc (Obj.cells (cs2 g) 86)).alloc (Obj.cells (cs8 f) 35)).alloc (Obj.cells #[.int .i64 0, .bool false] 86)
theorem w3_has (w : World) (g : G) (f : Fx) : Has (w3 w g f) w.heap.size 86 (cs2 g) ∧ Has (w3 w g f) (w.heap.size + 1) 35 (cs8 f) ∧ Has (w3 w g f) (w.heap.size + 1 + 1) 86 #[.int .i64 0, .bool false] ∧ w.grownBy (w3 w g f) none := by
  refine ⟨((Has.fresh _ _ _).alloc _).alloc _, ?_, ?_, gr_alloc (gr_alloc (World.grownBy_alloc _ _ _) _) _⟩
  · have := (Has.fresh (w.alloc (Obj.cells (cs2 g) 86)) 35 (cs8 f)).alloc (Obj.cells #[.int .i64 0, .bool false] 86)
    simpa using this
  · have := Has.fresh ((w.alloc (Obj.cells (cs2 g) 86)).alloc (Obj.cells (cs8 f) 35)) 86 #[.int .i64 0, .bool false]
    simpa using this

end Go.Proofs.YtdikhdfpcipdbaaGreatDoor.gt

