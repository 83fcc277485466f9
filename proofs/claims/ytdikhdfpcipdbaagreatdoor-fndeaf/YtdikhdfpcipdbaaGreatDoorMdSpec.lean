/- NextMode and MayFollow of the model. -/
import Derived.Test.YtdikhdfpcipdbaaGreatDoorMdNext
namespace Go.Proofs.YtdikhdfpcipdbaaGreatDoor.md
open Go.ChangeShapes Go.WideShapes Go.ChangeAt Go.RowKit
open Go.Proofs.YtdikhdfpcipdbaaGreatDoor.nums Go.Proofs.YtdikhdfpcipdbaaGreatDoor.mem
open Go.Proofs.YtdikhdfpcipdbaaGreatDoor.fix (ret_int ret_bool)
open Go.Proofs.YtdikhdfpcipdbaaGreatDoor.tab (Ret quiet_w)
open Go.Proofs.YtdikhdfpcipdbaaGreatDoor.cas (caseOk)
set_option linter.unusedVariables false

/-- Of a mode in the air, and not of many that fail. -/
def nx (m : Int) (f : Fx) : Int :=
  if m = 1 then (if landed f = true then 0 else if setOut f = true then 2 else 1)
  else if m = 2 then (if giveUp f = true then 4 else if fast f = true then 3 else 2)
  else if m = 3 then (if turnBack f = true then 4 else 3)
  else if m = 4 then (if back f = true then 1 else 4)
  else m

set_option maxHeartbeats 1000000 in
theorem specNext (m : Int) (f : Fx) (w : World) : Calls Tryz.prog 176 #[.int .i64 m, fac f] w (Ret (.int .i64 (nx m f)) w) := by
  by_cases h1 : m = 1
  · subst h1
    go_enter Tryz.func176, Tryz.ntmps176
    go_wp2
    all_goals go_ret
    all_goals exact ⟨ret_int (by unfold nx landed setOut; simp_all), World.grownBy_alloc _ _ _⟩
  · by_cases h2 : m = 2
    · subst h2
      go_enter Tryz.func176, Tryz.ntmps176
      go_wp2
      all_goals go_ret
      all_goals exact ⟨ret_int (by unfold nx giveUp setOut fast; first | (simp_all; done) | (simp_all; omega)), World.grownBy_alloc _ _ _⟩
    · by_cases h3 : m = 3
      · subst h3
        go_enter Tryz.func176, Tryz.ntmps176
        go_wp2
        all_goals go_ret
        all_goals exact ⟨ret_int (by unfold nx turnBack; simp_all), World.grownBy_alloc _ _ _⟩
      · by_cases h4 : m = 4
        · subst h4
          go_enter Tryz.func176, Tryz.ntmps176
          go_wp2
          all_goals go_ret
          all_goals exact ⟨ret_int (by unfold nx back; simp_all), World.grownBy_alloc _ _ _⟩
        · have d1 : (m == 1) = false := by simp [h1]
          have d2 : (m == 2) = false := by simp [h2]
          have d3 : (m == 3) = false := by simp [h3]
          have d4 : (m == 4) = false := by simp [h4]
          go_enter Tryz.func176, Tryz.ntmps176
          go_wp2
          all_goals go_ret
          all_goals exact ⟨ret_int (by unfold nx; simp_all), World.grownBy_alloc _ _ _⟩

theorem next_is {m : Int} (f : Fx) (h : modeOk m = true) : first f m (ways m) = if (decide (m = 0) && rise f) = true then 1 else if (inAir m && many f) = true then 5 else nx m f := by
  rcases six h with rfl | rfl | rfl | rfl | rfl | rfl
  · have e : ways 0 = [(1, 1)] := rfl
    have e2 : inAir 0 = false := rfl
    have e3 : nx 0 f = 0 := rfl
    rw [e, e2, e3]
    cases hr : rise f <;> simp [first, cnd, hr]
  · have e : ways 1 = [(5, 0), (0, 2), (2, 3)] := rfl
    have e2 : inAir 1 = true := rfl
    rw [e, e2]
    cases hm : many f <;> simp [first, cnd, hm, nx]
  · have e : ways 2 = [(5, 0), (4, 4), (3, 5)] := rfl
    have e2 : inAir 2 = true := rfl
    rw [e, e2]
    cases hm : many f <;> simp [first, cnd, hm, nx]
  · have e : ways 3 = [(5, 0), (4, 6)] := rfl
    have e2 : inAir 3 = true := rfl
    rw [e, e2]
    cases hm : many f <;> simp [first, cnd, hm, nx]
  · have e : ways 4 = [(5, 0), (1, 7)] := rfl
    have e2 : inAir 4 = true := rfl
    rw [e, e2]
    cases hm : many f <;> simp [first, cnd, hm, nx]
  · have e : ways 5 = [] := rfl
    have e2 : inAir 5 = false := rfl
    rw [e, e2]
    simp [first, nx]

set_option maxHeartbeats 1000000 in
theorem specNextMode (m : Int) (f : Fx) (w : World) : Calls Tryz.prog 163 #[.int .i64 m, fac f] w (Ret (.int .i64 (nextMode m f)) w) := by
  have A0 := Has.fresh w 35 (cs8 f)
  have g0 := World.grownBy_alloc w (Obj.cells (cs8 f) 35) none
  have cM := specMode m
  have cF := specFactsOk f
  cases h2 : factsOk f
  · rw [h2] at cF
    rw [next_no (by rw [h2, Bool.and_false])]
    clear h2
    go_enter Tryz.func163, Tryz.ntmps163
    go_wp2_with fail
    refine (cF _).mono ?_
    rintro e w1 ⟨rfl, g1⟩
    go_wp2_with fail
    go_ret
    exact ⟨rfl, gr_trans g0 g1⟩
  · rw [h2] at cF
    cases h1 : modeOk m
    · rw [h1] at cM
      rw [next_no (by rw [h1]; rfl)]
      clear h1 h2
      go_enter Tryz.func163, Tryz.ntmps163
      go_wp2_with fail
      refine (cF _).mono ?_
      rintro e w1 ⟨rfl, g1⟩
      go_wp2_with fail
      refine (cM _).mono ?_
      rintro e w' ⟨rfl, rfl⟩
      go_wp2_with fail
      go_ret
      exact ⟨rfl, gr_trans g0 g1⟩
    · rw [h1] at cM
      rw [next_yes h1 h2, next_is f h1]
      have cA := specInAir m
      have cN := specNext m f
      generalize inAir m = a at *
      generalize nx m f = N at *
      clear h1 h2
      obtain ⟨r, hr⟩ : ∃ r, (decide (m = 0) && rise f) = r := ⟨_, rfl⟩
      obtain ⟨y, hy⟩ : ∃ y, many f = y := ⟨_, rfl⟩
      rw [hr, hy]
      obtain ⟨V, hV⟩ : ∃ V, (if r = true then 1 else if (a && y) = true then 5 else N) = V := ⟨_, rfl⟩
      rw [hV]
      replace hr := Lib.hid hr
      replace hy := Lib.hid hy
      replace hV := Lib.hid hV
      go_enter Tryz.func163, Tryz.ntmps163
      go_wp2_with fail
      refine (cF _).mono ?_
      rintro e w1 ⟨rfl, g1⟩
      replace A0 := A0.grown g1 (by simp)
      replace g0 := gr_trans g0 g1
      clear g1 cF
      obtain ⟨a0, a1, a2, a3, a4, a5, a6, a7⟩ := eight A0
      go_wp2_with fail
      refine (cM _).mono ?_
      rintro e w' ⟨rfl, rfl⟩
      clear cM
      go_upto_region 3 with fail
      go_cut [31] (fun x wx => x = .bool r ∧ w1 = wx)
      case first =>
        by_cases h0 : m = 0
        · subst h0
          go_wp2
          all_goals go_meet
          all_goals exact ⟨congrArg Value.bool (by rw [← hr.out]; unfold rise; rw [Bool.eq_iff_iff]; simp_all), rfl⟩
        · have hd : (m == 0) = false := by simp [h0]
          go_wp2
          all_goals go_meet
          all_goals exact ⟨congrArg Value.bool (by rw [← hr.out]; simp [h0]), rfl⟩
      case rest =>
        obtain ⟨rfl, rfl⟩ := hcut
        clear hr
        cases r
        · go_wp2_with fail
          refine (cA _).mono ?_
          rintro e w' ⟨rfl, rfl⟩
          cases a
          · go_wp2_with fail
            refine (cN _).mono ?_
            rintro e w2 ⟨rfl, g2⟩
            go_wp2_with fail
            go_ret
            exact ⟨ret_int (by rw [← hV.out]; rfl), gr_trans g0 g2⟩
          · by_cases h7 : f.c = 7
            · have hd : (f.c == 7) = true := by simp [h7]
              have e7 : Hid (many f = true) := Lib.hid (by unfold many; simp [h7])
              go_wp2_with fail
              go_ret
              exact ⟨ret_int (by rw [← hV.out, ← hy.out, e7.out]; rfl), g0⟩
            · have hd : (f.c == 7) = false := by simp [h7]
              have e7 : Hid (many f = false) := Lib.hid (by unfold many; simp [h7])
              go_wp2_with fail
              refine (cN _).mono ?_
              rintro e w2 ⟨rfl, g2⟩
              go_wp2_with fail
              go_ret
              exact ⟨ret_int (by rw [← hV.out, ← hy.out, e7.out]; rfl), gr_trans g0 g2⟩
        · go_wp2_with fail
          go_ret
          exact ⟨ret_int (by rw [← hV.out]; rfl), g0⟩

/-- Is b told as following a? -/
theorem follow_is {a b : Int} (h : modeOk a = true) : mayFollow a b = (decide (a = b) || ((inAir a && decide (b = 5)) || (decide (a = 0 ∧ b = 1 ∨ a = 1 ∧ (b = 0 ∨ b = 2) ∨ a = 2 ∧ (b = 4 ∨ b = 3) ∨ a = 3 ∧ b = 4 ∨ a = 4 ∧ b = 1)))) := by
  rw [follow_yes h, Bool.eq_iff_iff]
  rcases six h with rfl | rfl | rfl | rfl | rfl | rfl
  · have e : ways 0 = [(1, 1)] := rfl
    have e2 : inAir 0 = false := rfl
    rw [e, e2]; simp; omega
  · have e : ways 1 = [(5, 0), (0, 2), (2, 3)] := rfl
    have e2 : inAir 1 = true := rfl
    rw [e, e2]; simp; omega
  · have e : ways 2 = [(5, 0), (4, 4), (3, 5)] := rfl
    have e2 : inAir 2 = true := rfl
    rw [e, e2]; simp; omega
  · have e : ways 3 = [(5, 0), (4, 6)] := rfl
    have e2 : inAir 3 = true := rfl
    rw [e, e2]; simp; omega
  · have e : ways 4 = [(5, 0), (1, 7)] := rfl
    have e2 : inAir 4 = true := rfl
    rw [e, e2]; simp; omega
  · have e : ways 5 = [] := rfl
    have e2 : inAir 5 = false := rfl
    rw [e, e2]; simp; omega

theorem follow_far {a b : Int} (h : modeOk b = false) : mayFollow a b = false := by
  cases h1 : modeOk a
  · exact follow_no h1
  · rw [follow_is h1]
    have hb : ¬ (0 ≤ b ∧ b ≤ 5) := by unfold modeOk inb at h; simp at h; omega
    have ha : 0 ≤ a ∧ a ≤ 5 := by unfold modeOk inb at h1; simpa using h1
    rw [Bool.eq_false_iff]
    simp
    omega

end Go.Proofs.YtdikhdfpcipdbaaGreatDoor.md
