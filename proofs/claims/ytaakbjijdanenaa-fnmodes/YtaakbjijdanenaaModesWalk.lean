/- The walk of the law of modes. -/
import Derived.Test.YtaakbjijdanenaaMdSpec
import Derived.Test.YtaakbjijdanenaaMdDraw2
import Derived.Test.YtaakbjijdanenaaQuietTail
namespace Go.Proofs.Ytaakbjijdanenaa.md
open Go.ChangeShapes Go.WideShapes Go.ChangeAt Go.RowKit
open Go.Proofs.Ytaakbjijdanenaa.nums Go.Proofs.Ytaakbjijdanenaa.mem Go.Proofs.Ytaakbjijdanenaa.cur
open Go.Proofs.Ytaakbjijdanenaa.fix (ret_int ret_bool)
open Go.Proofs.Ytaakbjijdanenaa.tab (Ret quiet_w)
open Go.Proofs.Ytaakbjijdanenaa.qt (rg_ret rg_same gr_rg)
set_option linter.unusedVariables false

/-- From a mode to the next one: is it in the air, do many fail. -/
inductive Step : Int → Int → Bool → Bool → Prop
  | s00 (y : Bool) : Step 0 0 false y
  | s01 (y : Bool) : Step 0 1 false y
  | s15 : Step 1 5 true true
  | s25 : Step 2 5 true true
  | s35 : Step 3 5 true true
  | s45 : Step 4 5 true true
  | s55 (y : Bool) : Step 5 5 false y
  | s10 : Step 1 0 true false
  | s11 : Step 1 1 true false
  | s12 : Step 1 2 true false
  | s22 : Step 2 2 true false
  | s23 : Step 2 3 true false
  | s24 : Step 2 4 true false
  | s33 : Step 3 3 true false
  | s34 : Step 3 4 true false
  | s41 : Step 4 1 true false
  | s44 : Step 4 4 true false
theorem Step.follow {m N : Int} {a y : Bool} (h : Step m N a y) : mayFollow m N = true := by
  cases h <;> rfl
theorem step_is {m : Int} {f : Fx} (h1 : modeOk m = true) (h2 : factsOk f = true) : Step m (nextMode m f) (inAir m) (many f) := by
  rw [next_yes h1 h2, next_is f h1]
  rcases six h1 with rfl | rfl | rfl | rfl | rfl | rfl
  · have e : inAir 0 = false := rfl
    rw [e]
    cases rise f
    · exact Step.s00 _
    · exact Step.s01 _
  · have e : inAir 1 = true := rfl
    rw [e]
    cases many f
    · simp [nx]
      cases landed f <;> cases setOut f <;> constructor
    · exact Step.s15
  · have e : inAir 2 = true := rfl
    rw [e]
    cases many f
    · simp [nx]
      cases giveUp f <;> cases fast f <;> constructor
    · exact Step.s25
  · have e : inAir 3 = true := rfl
    rw [e]
    cases many f
    · simp [nx]
      cases turnBack f <;> constructor
    · exact Step.s35
  · have e : inAir 4 = true := rfl
    rw [e]
    cases many f
    · simp [nx]
      cases back f <;> constructor
    · exact Step.s45
  · have e : inAir 5 = false := rfl
    rw [e]
    exact Step.s55 _

theorem ne7 {c : Int} (h : (c == 7) = false) : ¬ c = 7 := by simpa using h

set_option maxRecDepth 100000 in
set_option maxHeartbeats 2000000 in
theorem modesLaw (b : Option Addr) (n c : Nat) (w : World) (hb : Bytes w w.heap.size b n) :
    Calls Try.prog 3 #[.slice b n c] w fun e w' => e = .returned (.bool true) ∧ Below w.heap.size w w' := by
  by_cases hbig : 4096 < n
  · have hd : decide (4096 < n) = true := by simp [hbig]
    go_enter Try.func3, Try.ntmps3
    go_wp2_with fail
    refine (big b n c w).mono ?_
    rintro e w1 ⟨rfl, rfl⟩
    go_wp2_with fail
    go_ret
    exact ⟨rfl, Below.refl _ _⟩
  · have hd : decide (4096 < n) = false := by simp [hbig]
    have hn : n ≤ 4096 := by omega
    go_enter Try.func3, Try.ntmps3
    go_wp2_with fail
    refine (big b n c w).mono ?_
    rintro e w1 ⟨rfl, rfl⟩
    go_wp2_with fail
    refine (drawNextMode b n c _ hn hb).mono ?_
    rintro e w1 ⟨m, f, ⟨m0, m1⟩, rfl, g0⟩
    clear hd hbig
    have cI := implNextMode m f
    have cS := specNextMode m f
    have hno := next_no (m := m) (f := f)
    have hst := step_is (m := m) (f := f)
    have hml : modeOk m = false → m < 0 ∨ 5 < m := by unfold modeOk inb; simp; omega
    have hmi : modeOk m = true → 0 ≤ m ∧ m ≤ 5 := by unfold modeOk inb; simp
    have D0 := Has.fresh w1 25 (cs8 f)
    replace g0 := gr_alloc g0 (Obj.cells (cs8 f) 25)
    go_upto_region 4 with fail
    generalize hX : w1.heap.size = X at *
    generalize hW : w1.alloc (Obj.cells #[.int .i64 f.sp, .bool f.so, .int .i64 f.h, .bool f.ho, .int .i64 f.c, .bool f.ar, .int .i64 f.wn, .int .i64 f.tm] 25) = w2 at *
    obtain ⟨N, hN⟩ : ∃ N, nextMode m f = N := ⟨_, rfl⟩
    rw [hN] at cI cS hno hst
    clear hX hW hN
    obtain ⟨e0, e1, e2, e3, e4, e5, e6, e7⟩ := eight D0
    go_wp2_with fail
    refine (cI _).mono ?_
    rintro e w3 ⟨rfl, g3⟩
    replace D0 := D0.grown g3 (by simp)
    replace g0 := gr_trans g0 g3
    clear g3 cI e0 e1 e2 e3 e4 e5 e6 e7
    go_wp2_with fail
    refine (drawMayFollow b n c _ hn ((hb.below (Nat.le_refl _) (below_of_none g0)).more g0.size)).mono ?_
    rintro e w4 ⟨x, y, rfl, g4⟩
    replace D0 := D0.grown g4 (by simp)
    replace g0 := gr_trans g0 g4
    clear g4
    go_wp2_with fail
    refine (drawInAir b n c _ hn ((hb.below (Nat.le_refl _) (below_of_none g0)).more g0.size)).mono ?_
    rintro e w5 ⟨k, rfl, g5⟩
    replace D0 := D0.grown g5 (by simp)
    replace g0 := gr_trans g0 g5
    clear g5
    go_upto_region 7 with fail
    have cP := implMayFollow x y
    have cQ := specMayFollow x y
    have cJ := implInAir k
    have cK := specInAir k
    have cF : ∀ W, Calls Try.prog 18 #[fac f] W (Ret (.bool (factsOk f)) W) := implFactsOk f
    have cG : ∀ W, Calls Try.prog 19 #[fac f] W (Ret (.bool (factsOk f)) W) := specFactsOk f
    generalize mayFollow x y = r at *
    generalize inAir k = s at *
    generalize factsOk f = o at *
    obtain ⟨e0, e1, e2, e3, e4, e5, e6, e7⟩ := eight D0
    have q0 : ∀ d os, (Go.Sort.grow (redrawn w5 d) os).cell? ⟨X, 0, none⟩ = some (.int .i64 f.sp) := cell_regrown e0
    have q1 : ∀ d os, (Go.Sort.grow (redrawn w5 d) os).cell? ⟨X, 1, none⟩ = some (.bool f.so) := cell_regrown e1
    have q2 : ∀ d os, (Go.Sort.grow (redrawn w5 d) os).cell? ⟨X, 2, none⟩ = some (.int .i64 f.h) := cell_regrown e2
    have q3 : ∀ d os, (Go.Sort.grow (redrawn w5 d) os).cell? ⟨X, 3, none⟩ = some (.bool f.ho) := cell_regrown e3
    have q4 : ∀ d os, (Go.Sort.grow (redrawn w5 d) os).cell? ⟨X, 4, none⟩ = some (.int .i64 f.c) := cell_regrown e4
    have q5 : ∀ d os, (Go.Sort.grow (redrawn w5 d) os).cell? ⟨X, 5, none⟩ = some (.bool f.ar) := cell_regrown e5
    have q6 : ∀ d os, (Go.Sort.grow (redrawn w5 d) os).cell? ⟨X, 6, none⟩ = some (.int .i64 f.wn) := cell_regrown e6
    have q7 : ∀ d os, (Go.Sort.grow (redrawn w5 d) os).cell? ⟨X, 7, none⟩ = some (.int .i64 f.tm) := cell_regrown e7
    clear e0 e1 e2 e3 e4 e5 e6 e7
    refine wp_region_quiet_below (by kernel_rfl) (by kernel_rfl) ?_
    repeat (quiet_step (first | (go_at_call 13; with_reducible exact rg_ret (cS _)) | (go_at_call 14; with_reducible exact rg_ret (cP _)) | (go_at_call 15; with_reducible exact rg_same (cQ _)) | (go_at_call 16; with_reducible exact rg_same (cJ _)) | (go_at_call 17; with_reducible exact rg_same (cK _)) | (go_at_call 18; with_reducible exact rg_ret (cF _)) | (go_at_call 19; with_reducible exact rg_ret (cG _))))
    refine wpQuiet_nil ?_
    intro _ hw'
    obtain ⟨⟨dq, osq⟩, hw''⟩ := hw'
    subst hw''
    have gq := gr_rg w5 dq osq
    replace D0 := D0.grown gq (by simp)
    replace g0 := gr_trans g0 gq
    clear gq q0 q1 q2 q3 q4 q5 q6 q7 cP cQ cJ cK cF cS
    generalize Go.Sort.grow (redrawn w5 dq) osq = w7 at *
    go_upto_region 9 with fail
    obtain ⟨e0, e1, e2, e3, e4, e5, e6, e7⟩ := eight D0
    cases o
    · have hN := hno (by rw [Bool.and_false])
      subst hN
      clear hno hst hml hmi
      go_wp2_with fail
      refine (cG _).mono ?_
      rintro e w8 ⟨rfl, g8⟩
      go_wp2_with fail
      go_ret
      exact ⟨rfl, below_of_none (gr_trans g0 g8)⟩
    · cases hm : modeOk m
      · have hN := hno (by rw [hm]; rfl)
        have hl := hml hm
        subst hN
        clear hno hst hml hmi hm
        go_wp2_with fail
        refine (cG _).mono ?_
        rintro e w8 ⟨rfl, g8⟩
        rcases hl with hl | hl
        · go_wp2_with fail
          go_ret
          exact ⟨rfl, below_of_none (gr_trans g0 g8)⟩
        · have hl' : ¬ m < 0 := by omega
          go_wp2_with fail
          go_ret
          exact ⟨rfl, below_of_none (gr_trans g0 g8)⟩
      · have hl := hmi hm
        have hS := hst hm rfl
        have hd1 : decide (m < 0) = false := by simp; omega
        have hd2 : decide (5 < m) = false := by simp; omega
        clear hno hst hml hmi hm m0 m1
        go_wp2_with fail
        refine (cG _).mono ?_
        rintro e w8 ⟨rfl, g8⟩
        replace g0 := gr_trans g0 g8
        replace D0 := D0.grown g8 (by simp)
        clear g8 cG e0 e1 e2 e3 e4 e5 e6 e7
        go_upto_region 11 with fail
        clear hd1 hd2 hl
        obtain ⟨e0, e1, e2, e3, e4, e5, e6, e7⟩ := eight D0
        clear e0 e1 e2 e3 e5 e6 e7
        have cM := fun W => hS.follow ▸ implMayFollow m N W
        have cI := implInAir m
        have hd : (f.c == 7) = many f := by unfold many; rw [Bool.eq_iff_iff]; simp
        generalize inAir m = a at *
        generalize many f = y at *
        cases hS
        all_goals go_wp2_with fail
        all_goals refine (cM _).mono ?_
        all_goals rintro e w9 ⟨rfl, g9⟩
        all_goals replace g0 := gr_trans g0 g9
        all_goals have c4 : w9.cell? ⟨X, 4, none⟩ = some (.int .i64 f.c) := (D0.grown g9 (by simp)).cell 4
        all_goals clear e4 g9 D0 cM
        all_goals try (have hx := ne7 hd)
        all_goals go_wp2_with (go_at_call 16; refine (cI _).mono ?_; rintro e w10 ⟨rfl, rfl⟩)
        all_goals go_ret
        all_goals exact ⟨rfl, below_of_none g0⟩
end Go.Proofs.Ytaakbjijdanenaa.md
