/- Gated of the program. -/
import Derived.Test.YtkmbfacgigpkmaaGt
import Derived.Test.YtkmbfacgigpkmaaQuietTail
import Derived.Deep.DeepCutAuto
namespace Go.Proofs.Ytkmbfacgigpkmaa.gt
open Go.ChangeShapes Go.WideShapes Go.ChangeAt Go.RowKit
open Go.Extern.Stop Go.Stop Go.Extern
open Go.Proofs.Ytkmbfacgigpkmaa.nums Go.Proofs.Ytkmbfacgigpkmaa.mem
open Go.Proofs.Ytkmbfacgigpkmaa.fix (ret_int ret_bool)
open Go.Proofs.Ytkmbfacgigpkmaa.tab (Ret quiet_w)
open Go.Proofs.Ytkmbfacgigpkmaa.md (Fx cs8 fac factsOk eight)
open Go.Proofs.Ytkmbfacgigpkmaa.qt (region_below_tail rg_ret rg_same gr_rg)
set_option linter.unusedVariables false

/-- The three boxes that Gated lays at its start. -/
abbrev w3 (w : World) (g : G) (f : Fx) : World := ((w.alloc (Obj.cells (cs2 g) 25)).alloc (Obj.cells (cs8 f) 27)).alloc (Obj.cells #[.int .i64 0, .bool false] 25)
theorem w3_has (w : World) (g : G) (f : Fx) : Has (w3 w g f) w.heap.size 25 (cs2 g) ∧ Has (w3 w g f) (w.heap.size + 1) 27 (cs8 f) ∧ Has (w3 w g f) (w.heap.size + 1 + 1) 25 #[.int .i64 0, .bool false] ∧ w.grownBy (w3 w g f) none := by
  refine ⟨((Has.fresh _ _ _).alloc _).alloc _, ?_, ?_, gr_alloc (gr_alloc (World.grownBy_alloc _ _ _) _) _⟩
  · have := (Has.fresh (w.alloc (Obj.cells (cs2 g) 25)) 27 (cs8 f)).alloc (Obj.cells #[.int .i64 0, .bool false] 25)
    simpa using this
  · have := Has.fresh ((w.alloc (Obj.cells (cs2 g) 25)).alloc (Obj.cells (cs8 f) 27)) 25 #[.int .i64 0, .bool false]
    simpa using this

set_option maxHeartbeats 2000000 in
theorem implGated (g : G) (ch st : Bool) (f : Fx) (w : World) : Calls Try.prog 8 #[gv g, .bool ch, .bool st, fac f] w (Ret (gv (gated g ch st f)) w) := by
  obtain ⟨a0, b0, r0, g0⟩ := w3_has w g f
  have cG := implGateOk g
  have cF := md.implFactsOk f
  have hn := gated_no (g := g) (ch := ch) (st := st) (f := f)
  have hy := gated_yes (g := g) (ch := ch) (st := st) (f := f)
  have hs : gateOk g.1 = true → 0 ≤ g.1 ∧ g.1 ≤ 100 := by unfold gateOk inb; simp
  cases h1 : gateOk g.1
  · rw [h1] at cG hn
    rw [hn rfl]
    clear hn hy cF h1 hs
    go_enter Try.func8, Try.ntmps8
    go_wp2_with fail
    refine (cG _).mono ?_
    rintro e w1 ⟨rfl, g1⟩
    replace r0 := r0.grown g1 (by simp)
    replace g0 := gr_trans g0 g1
    obtain ⟨c0, c1, f0, f1⟩ := two r0
    go_wp2_with fail
    obtain ⟨k0, k1, _, _⟩ := two (set2 r0 (.int .i64 0) (.bool false))
    exact bodyPost_ret (v := gv (0, false)) (by simp [results, Try.results8, go_sem, k0, k1]) rfl ⟨rfl, gr_new (gr_new g0 (by omega) _ _) (by omega) _ _⟩
  · rw [h1] at cG hn hy
    cases h2 : factsOk f
    · rw [h2] at cF hn
      rw [hn rfl]
      clear hn hy h1 h2 hs
      go_enter Try.func8, Try.ntmps8
      go_wp2_with fail
      refine (cG _).mono ?_
      rintro e w1 ⟨rfl, g1⟩
      replace b0 := b0.grown g1 (by simp)
      replace r0 := r0.grown g1 (by simp)
      replace g0 := gr_trans g0 g1
      obtain ⟨e0, e1, e2, e3, e4, e5, e6, e7⟩ := eight b0
      go_wp2_with fail
      refine (cF _).mono ?_
      rintro e w2 ⟨rfl, g2⟩
      replace r0 := r0.grown g2 (by simp)
      replace g0 := gr_trans g0 g2
      obtain ⟨c0, c1, f0, f1⟩ := two r0
      go_wp2_with fail
      obtain ⟨k0, k1, _, _⟩ := two (set2 r0 (.int .i64 0) (.bool false))
      exact bodyPost_ret (v := gv (0, false)) (by simp [results, Try.results8, go_sem, k0, k1]) rfl ⟨rfl, gr_new (gr_new g0 (by omega) _ _) (by omega) _ _⟩
    · rw [h2] at cF
      rw [hy rfl h2]
      obtain ⟨h0, hle⟩ := hs h1
      clear hn hy h1 h2 hs
      obtain ⟨s, x⟩ := g
      have cL := implTooLow f
      generalize tooLow f = low at *
      have e1 := tickF
      have e2 := tickW
      have e3 := aheadF s
      have e4 := aheadW s
      have cBW : ∀ W, Calls Try.prog 23 #[gv (s, false)] W (Ret (isW s) W) := fun W => implBehind (s, false) W
      have cBF : ∀ W, Calls Try.prog 23 #[gv (s, true)] W (Ret (isF s) W) := fun W => implBehind (s, true) W
      have cTW : ∀ b W, Calls Try.prog 58 #[.int .i64 s, .bool b, .bool low] W fun e w' => e = .returned (face (ticked (s, false) b low)) ∧ W = w' := fun b => implTickW s b low h0 hle
      have cTF : ∀ b W, Calls Try.prog 56 #[.int .i64 s, .bool b, .bool low] W fun e w' => e = .returned (face (ticked (s, true) b low)) ∧ W = w' := fun b => implTickF s b low
      cases x <;> cases ch
      · have hV : ((false && st : Bool)) = false := rfl
        rw [hV]
        clear hV
        have cB := cBW
        have cT := cTW false
        have cO := implFace (ticked (s, false) false low)
        generalize ticked (s, false) false low = T at *
        generalize face T = V at *
        clear cBW cBF cTW cTF
        go_enter Try.func8, Try.ntmps8
        go_wp2_with fail
        refine (cG _).mono ?_
        rintro e w1 ⟨rfl, g1⟩
        replace a0 := a0.grown g1 (by simp)
        replace b0 := b0.grown g1 (by simp)
        replace r0 := r0.grown g1 (by simp)
        replace g0 := gr_trans g0 g1
        obtain ⟨e0, e1, e2, e3, e4, e5, e6, e7⟩ := eight b0
        go_wp2_with fail
        refine (cF _).mono ?_
        rintro e w2 ⟨rfl, g2⟩
        clear e0 e1 e2 e3 e4 e5 e6 e7
        replace a0 := a0.grown g2 (by simp)
        replace b0 := b0.grown g2 (by simp)
        replace r0 := r0.grown g2 (by simp)
        replace g0 := gr_trans g0 g2
        clear g1 g2 cG cF
        go_upto_region 3 with fail
        obtain ⟨a1, a2, _, _⟩ := two a0
        obtain ⟨m0, m1, m2, m3, m4, m5, m6, m7⟩ := eight b0
        have q0 : ∀ d os, (Go.Sort.grow (redrawn w2 d) os).cell? ⟨w.heap.size, 0, none⟩ = some (.int .i64 s) := cell_regrown a1
        have q1 : ∀ d os, (Go.Sort.grow (redrawn w2 d) os).cell? ⟨w.heap.size, 1, none⟩ = some (.bool false) := cell_regrown a2
        have p0 : ∀ d os, (Go.Sort.grow (redrawn w2 d) os).cell? ⟨w.heap.size + 1, 0, none⟩ = some (.int .i64 f.sp) := cell_regrown m0
        have p1 : ∀ d os, (Go.Sort.grow (redrawn w2 d) os).cell? ⟨w.heap.size + 1, 1, none⟩ = some (.bool f.so) := cell_regrown m1
        have p2 : ∀ d os, (Go.Sort.grow (redrawn w2 d) os).cell? ⟨w.heap.size + 1, 2, none⟩ = some (.int .i64 f.h) := cell_regrown m2
        have p3 : ∀ d os, (Go.Sort.grow (redrawn w2 d) os).cell? ⟨w.heap.size + 1, 3, none⟩ = some (.bool f.ho) := cell_regrown m3
        have p4 : ∀ d os, (Go.Sort.grow (redrawn w2 d) os).cell? ⟨w.heap.size + 1, 4, none⟩ = some (.int .i64 f.c) := cell_regrown m4
        have p5 : ∀ d os, (Go.Sort.grow (redrawn w2 d) os).cell? ⟨w.heap.size + 1, 5, none⟩ = some (.bool f.ar) := cell_regrown m5
        have p6 : ∀ d os, (Go.Sort.grow (redrawn w2 d) os).cell? ⟨w.heap.size + 1, 6, none⟩ = some (.int .i64 f.wn) := cell_regrown m6
        have p7 : ∀ d os, (Go.Sort.grow (redrawn w2 d) os).cell? ⟨w.heap.size + 1, 7, none⟩ = some (.int .i64 f.tm) := cell_regrown m7
        refine region_below_tail 13 (by kernel_rfl) (by kernel_rfl) ?_
        simp only [List.take_succ_cons, List.take_zero, List.drop_succ_cons, List.drop_zero]
        repeat (quiet_step (first | (go_at_call 23; with_reducible exact rg_ret (cB _)) | (go_at_call 24; with_reducible exact rg_ret (cL _)) | (go_at_call 58; with_reducible exact rg_same (cT _)) | (go_at_call 22; with_reducible exact rg_ret (cO _))))
        refine wpQuiet_nil ?_
        intro _ hw'
        obtain ⟨⟨dq, osq⟩, hw''⟩ := hw'
        subst hw''
        have gq := gr_rg w2 dq osq
        replace r0 := r0.grown gq (by simp)
        replace g0 := gr_trans g0 gq
        clear gq q0 q1 p0 p1 p2 p3 p4 p5 p6 p7 m0 m1 m2 m3 m4 m5 m6 m7 a0 a1 a2 b0 cB cL cT cO
        generalize Go.Sort.grow (redrawn w2 dq) osq = w3 at *
        obtain ⟨c0, c1, f0, f1⟩ := two r0
        go_wp2_with fail
        obtain ⟨k0, k1, _, _⟩ := two (set2 r0 (.int .i64 T.1) (.bool T.2))
        exact bodyPost_ret (v := gv T) (by simp [results, Try.results8, go_sem, k0, k1]) rfl ⟨rfl, gr_new (gr_new g0 (by omega) _ _) (by omega) _ _⟩
      · have hV : ((true && st : Bool)) = st := rfl
        rw [hV]
        clear hV
        have cB := cBW
        have cT := cTW st
        have cO := implFace (ticked (s, false) st low)
        generalize ticked (s, false) st low = T at *
        generalize face T = V at *
        clear cBW cBF cTW cTF
        go_enter Try.func8, Try.ntmps8
        go_wp2_with fail
        refine (cG _).mono ?_
        rintro e w1 ⟨rfl, g1⟩
        replace a0 := a0.grown g1 (by simp)
        replace b0 := b0.grown g1 (by simp)
        replace r0 := r0.grown g1 (by simp)
        replace g0 := gr_trans g0 g1
        obtain ⟨e0, e1, e2, e3, e4, e5, e6, e7⟩ := eight b0
        go_wp2_with fail
        refine (cF _).mono ?_
        rintro e w2 ⟨rfl, g2⟩
        clear e0 e1 e2 e3 e4 e5 e6 e7
        replace a0 := a0.grown g2 (by simp)
        replace b0 := b0.grown g2 (by simp)
        replace r0 := r0.grown g2 (by simp)
        replace g0 := gr_trans g0 g2
        clear g1 g2 cG cF
        go_upto_region 3 with fail
        obtain ⟨a1, a2, _, _⟩ := two a0
        obtain ⟨m0, m1, m2, m3, m4, m5, m6, m7⟩ := eight b0
        have q0 : ∀ d os, (Go.Sort.grow (redrawn w2 d) os).cell? ⟨w.heap.size, 0, none⟩ = some (.int .i64 s) := cell_regrown a1
        have q1 : ∀ d os, (Go.Sort.grow (redrawn w2 d) os).cell? ⟨w.heap.size, 1, none⟩ = some (.bool false) := cell_regrown a2
        have p0 : ∀ d os, (Go.Sort.grow (redrawn w2 d) os).cell? ⟨w.heap.size + 1, 0, none⟩ = some (.int .i64 f.sp) := cell_regrown m0
        have p1 : ∀ d os, (Go.Sort.grow (redrawn w2 d) os).cell? ⟨w.heap.size + 1, 1, none⟩ = some (.bool f.so) := cell_regrown m1
        have p2 : ∀ d os, (Go.Sort.grow (redrawn w2 d) os).cell? ⟨w.heap.size + 1, 2, none⟩ = some (.int .i64 f.h) := cell_regrown m2
        have p3 : ∀ d os, (Go.Sort.grow (redrawn w2 d) os).cell? ⟨w.heap.size + 1, 3, none⟩ = some (.bool f.ho) := cell_regrown m3
        have p4 : ∀ d os, (Go.Sort.grow (redrawn w2 d) os).cell? ⟨w.heap.size + 1, 4, none⟩ = some (.int .i64 f.c) := cell_regrown m4
        have p5 : ∀ d os, (Go.Sort.grow (redrawn w2 d) os).cell? ⟨w.heap.size + 1, 5, none⟩ = some (.bool f.ar) := cell_regrown m5
        have p6 : ∀ d os, (Go.Sort.grow (redrawn w2 d) os).cell? ⟨w.heap.size + 1, 6, none⟩ = some (.int .i64 f.wn) := cell_regrown m6
        have p7 : ∀ d os, (Go.Sort.grow (redrawn w2 d) os).cell? ⟨w.heap.size + 1, 7, none⟩ = some (.int .i64 f.tm) := cell_regrown m7
        refine region_below_tail 13 (by kernel_rfl) (by kernel_rfl) ?_
        simp only [List.take_succ_cons, List.take_zero, List.drop_succ_cons, List.drop_zero]
        repeat (quiet_step (first | (go_at_call 23; with_reducible exact rg_ret (cB _)) | (go_at_call 24; with_reducible exact rg_ret (cL _)) | (go_at_call 58; with_reducible exact rg_same (cT _)) | (go_at_call 22; with_reducible exact rg_ret (cO _))))
        refine wpQuiet_nil ?_
        intro _ hw'
        obtain ⟨⟨dq, osq⟩, hw''⟩ := hw'
        subst hw''
        have gq := gr_rg w2 dq osq
        replace r0 := r0.grown gq (by simp)
        replace g0 := gr_trans g0 gq
        clear gq q0 q1 p0 p1 p2 p3 p4 p5 p6 p7 m0 m1 m2 m3 m4 m5 m6 m7 a0 a1 a2 b0 cB cL cT cO
        generalize Go.Sort.grow (redrawn w2 dq) osq = w3 at *
        obtain ⟨c0, c1, f0, f1⟩ := two r0
        go_wp2_with fail
        obtain ⟨k0, k1, _, _⟩ := two (set2 r0 (.int .i64 T.1) (.bool T.2))
        exact bodyPost_ret (v := gv T) (by simp [results, Try.results8, go_sem, k0, k1]) rfl ⟨rfl, gr_new (gr_new g0 (by omega) _ _) (by omega) _ _⟩
      · have hV : ((false && st : Bool)) = false := rfl
        rw [hV]
        clear hV
        have cB := cBF
        have cT := cTF false
        have cO := implFace (ticked (s, true) false low)
        generalize ticked (s, true) false low = T at *
        generalize face T = V at *
        clear cBW cBF cTW cTF
        go_enter Try.func8, Try.ntmps8
        go_wp2_with fail
        refine (cG _).mono ?_
        rintro e w1 ⟨rfl, g1⟩
        replace a0 := a0.grown g1 (by simp)
        replace b0 := b0.grown g1 (by simp)
        replace r0 := r0.grown g1 (by simp)
        replace g0 := gr_trans g0 g1
        obtain ⟨e0, e1, e2, e3, e4, e5, e6, e7⟩ := eight b0
        go_wp2_with fail
        refine (cF _).mono ?_
        rintro e w2 ⟨rfl, g2⟩
        clear e0 e1 e2 e3 e4 e5 e6 e7
        replace a0 := a0.grown g2 (by simp)
        replace b0 := b0.grown g2 (by simp)
        replace r0 := r0.grown g2 (by simp)
        replace g0 := gr_trans g0 g2
        clear g1 g2 cG cF
        go_upto_region 3 with fail
        obtain ⟨a1, a2, _, _⟩ := two a0
        obtain ⟨m0, m1, m2, m3, m4, m5, m6, m7⟩ := eight b0
        have q0 : ∀ d os, (Go.Sort.grow (redrawn w2 d) os).cell? ⟨w.heap.size, 0, none⟩ = some (.int .i64 s) := cell_regrown a1
        have q1 : ∀ d os, (Go.Sort.grow (redrawn w2 d) os).cell? ⟨w.heap.size, 1, none⟩ = some (.bool true) := cell_regrown a2
        have p0 : ∀ d os, (Go.Sort.grow (redrawn w2 d) os).cell? ⟨w.heap.size + 1, 0, none⟩ = some (.int .i64 f.sp) := cell_regrown m0
        have p1 : ∀ d os, (Go.Sort.grow (redrawn w2 d) os).cell? ⟨w.heap.size + 1, 1, none⟩ = some (.bool f.so) := cell_regrown m1
        have p2 : ∀ d os, (Go.Sort.grow (redrawn w2 d) os).cell? ⟨w.heap.size + 1, 2, none⟩ = some (.int .i64 f.h) := cell_regrown m2
        have p3 : ∀ d os, (Go.Sort.grow (redrawn w2 d) os).cell? ⟨w.heap.size + 1, 3, none⟩ = some (.bool f.ho) := cell_regrown m3
        have p4 : ∀ d os, (Go.Sort.grow (redrawn w2 d) os).cell? ⟨w.heap.size + 1, 4, none⟩ = some (.int .i64 f.c) := cell_regrown m4
        have p5 : ∀ d os, (Go.Sort.grow (redrawn w2 d) os).cell? ⟨w.heap.size + 1, 5, none⟩ = some (.bool f.ar) := cell_regrown m5
        have p6 : ∀ d os, (Go.Sort.grow (redrawn w2 d) os).cell? ⟨w.heap.size + 1, 6, none⟩ = some (.int .i64 f.wn) := cell_regrown m6
        have p7 : ∀ d os, (Go.Sort.grow (redrawn w2 d) os).cell? ⟨w.heap.size + 1, 7, none⟩ = some (.int .i64 f.tm) := cell_regrown m7
        refine region_below_tail 13 (by kernel_rfl) (by kernel_rfl) ?_
        simp only [List.take_succ_cons, List.take_zero, List.drop_succ_cons, List.drop_zero]
        repeat (quiet_step (first | (go_at_call 23; with_reducible exact rg_ret (cB _)) | (go_at_call 24; with_reducible exact rg_ret (cL _)) | (go_at_call 56; with_reducible exact rg_same (cT _)) | (go_at_call 22; with_reducible exact rg_ret (cO _))))
        refine wpQuiet_nil ?_
        intro _ hw'
        obtain ⟨⟨dq, osq⟩, hw''⟩ := hw'
        subst hw''
        have gq := gr_rg w2 dq osq
        replace r0 := r0.grown gq (by simp)
        replace g0 := gr_trans g0 gq
        clear gq q0 q1 p0 p1 p2 p3 p4 p5 p6 p7 m0 m1 m2 m3 m4 m5 m6 m7 a0 a1 a2 b0 cB cL cT cO
        generalize Go.Sort.grow (redrawn w2 dq) osq = w3 at *
        obtain ⟨c0, c1, f0, f1⟩ := two r0
        go_wp2_with fail
        obtain ⟨k0, k1, _, _⟩ := two (set2 r0 (.int .i64 T.1) (.bool T.2))
        exact bodyPost_ret (v := gv T) (by simp [results, Try.results8, go_sem, k0, k1]) rfl ⟨rfl, gr_new (gr_new g0 (by omega) _ _) (by omega) _ _⟩
      · have hV : ((true && st : Bool)) = st := rfl
        rw [hV]
        clear hV
        have cB := cBF
        have cT := cTF st
        have cO := implFace (ticked (s, true) st low)
        generalize ticked (s, true) st low = T at *
        generalize face T = V at *
        clear cBW cBF cTW cTF
        go_enter Try.func8, Try.ntmps8
        go_wp2_with fail
        refine (cG _).mono ?_
        rintro e w1 ⟨rfl, g1⟩
        replace a0 := a0.grown g1 (by simp)
        replace b0 := b0.grown g1 (by simp)
        replace r0 := r0.grown g1 (by simp)
        replace g0 := gr_trans g0 g1
        obtain ⟨e0, e1, e2, e3, e4, e5, e6, e7⟩ := eight b0
        go_wp2_with fail
        refine (cF _).mono ?_
        rintro e w2 ⟨rfl, g2⟩
        clear e0 e1 e2 e3 e4 e5 e6 e7
        replace a0 := a0.grown g2 (by simp)
        replace b0 := b0.grown g2 (by simp)
        replace r0 := r0.grown g2 (by simp)
        replace g0 := gr_trans g0 g2
        clear g1 g2 cG cF
        go_upto_region 3 with fail
        obtain ⟨a1, a2, _, _⟩ := two a0
        obtain ⟨m0, m1, m2, m3, m4, m5, m6, m7⟩ := eight b0
        have q0 : ∀ d os, (Go.Sort.grow (redrawn w2 d) os).cell? ⟨w.heap.size, 0, none⟩ = some (.int .i64 s) := cell_regrown a1
        have q1 : ∀ d os, (Go.Sort.grow (redrawn w2 d) os).cell? ⟨w.heap.size, 1, none⟩ = some (.bool true) := cell_regrown a2
        have p0 : ∀ d os, (Go.Sort.grow (redrawn w2 d) os).cell? ⟨w.heap.size + 1, 0, none⟩ = some (.int .i64 f.sp) := cell_regrown m0
        have p1 : ∀ d os, (Go.Sort.grow (redrawn w2 d) os).cell? ⟨w.heap.size + 1, 1, none⟩ = some (.bool f.so) := cell_regrown m1
        have p2 : ∀ d os, (Go.Sort.grow (redrawn w2 d) os).cell? ⟨w.heap.size + 1, 2, none⟩ = some (.int .i64 f.h) := cell_regrown m2
        have p3 : ∀ d os, (Go.Sort.grow (redrawn w2 d) os).cell? ⟨w.heap.size + 1, 3, none⟩ = some (.bool f.ho) := cell_regrown m3
        have p4 : ∀ d os, (Go.Sort.grow (redrawn w2 d) os).cell? ⟨w.heap.size + 1, 4, none⟩ = some (.int .i64 f.c) := cell_regrown m4
        have p5 : ∀ d os, (Go.Sort.grow (redrawn w2 d) os).cell? ⟨w.heap.size + 1, 5, none⟩ = some (.bool f.ar) := cell_regrown m5
        have p6 : ∀ d os, (Go.Sort.grow (redrawn w2 d) os).cell? ⟨w.heap.size + 1, 6, none⟩ = some (.int .i64 f.wn) := cell_regrown m6
        have p7 : ∀ d os, (Go.Sort.grow (redrawn w2 d) os).cell? ⟨w.heap.size + 1, 7, none⟩ = some (.int .i64 f.tm) := cell_regrown m7
        refine region_below_tail 13 (by kernel_rfl) (by kernel_rfl) ?_
        simp only [List.take_succ_cons, List.take_zero, List.drop_succ_cons, List.drop_zero]
        repeat (quiet_step (first | (go_at_call 23; with_reducible exact rg_ret (cB _)) | (go_at_call 24; with_reducible exact rg_ret (cL _)) | (go_at_call 56; with_reducible exact rg_same (cT _)) | (go_at_call 22; with_reducible exact rg_ret (cO _))))
        refine wpQuiet_nil ?_
        intro _ hw'
        obtain ⟨⟨dq, osq⟩, hw''⟩ := hw'
        subst hw''
        have gq := gr_rg w2 dq osq
        replace r0 := r0.grown gq (by simp)
        replace g0 := gr_trans g0 gq
        clear gq q0 q1 p0 p1 p2 p3 p4 p5 p6 p7 m0 m1 m2 m3 m4 m5 m6 m7 a0 a1 a2 b0 cB cL cT cO
        generalize Go.Sort.grow (redrawn w2 dq) osq = w3 at *
        obtain ⟨c0, c1, f0, f1⟩ := two r0
        go_wp2_with fail
        obtain ⟨k0, k1, _, _⟩ := two (set2 r0 (.int .i64 T.1) (.bool T.2))
        exact bodyPost_ret (v := gv T) (by simp [results, Try.results8, go_sem, k0, k1]) rfl ⟨rfl, gr_new (gr_new g0 (by omega) _ _) (by omega) _ _⟩
end Go.Proofs.Ytkmbfacgigpkmaa.gt
