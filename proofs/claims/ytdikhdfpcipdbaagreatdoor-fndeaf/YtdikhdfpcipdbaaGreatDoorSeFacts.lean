/- FactsOf of both sides. -/
import Derived.Test.YtdikhdfpcipdbaaGreatDoorSeOk
import Derived.Test.YtdikhdfpcipdbaaGreatDoorVtTwo
import Derived.Test.YtdikhdfpcipdbaaGreatDoorMdArg
import Derived.Test.YtdikhdfpcipdbaaGreatDoorQuietTail
import Derived.Deep.DeepCutAuto
namespace Go.Proofs.YtdikhdfpcipdbaaGreatDoor.se
open Go.ChangeShapes Go.WideShapes Go.ChangeAt Go.RowKit
open Go.Proofs.YtdikhdfpcipdbaaGreatDoor.nums Go.Proofs.YtdikhdfpcipdbaaGreatDoor.mem
open Go.Proofs.YtdikhdfpcipdbaaGreatDoor.tab (Ret)
open Go.Proofs.YtdikhdfpcipdbaaGreatDoor.md (Fx cs8 fac eight free8)
open Go.Proofs.YtdikhdfpcipdbaaGreatDoor.qt (region_below_tail rg_ret rg_same gr_rg)
set_option linter.unusedVariables false

def zF : Fx := ⟨0, false, 0, false, 0, false, 0, 0⟩
def factsOf (s : S) (c t : Int) : Fx := if (ok s && cas.caseOk c) = true then ⟨(vt.voteThree s.sp 3).1, (vt.voteThree s.sp 3).2, (vt.voteTwo s.he 3 10).1, (vt.voteTwo s.he 3 10).2, c, s.ar, s.wn, btw t 0 1000⟩ else zF
theorem factsOf_no {s : S} {c : Int} (t : Int) (h : (ok s && cas.caseOk c) = false) : factsOf s c t = zF := if_neg (by rw [h]; simp)
theorem factsOf_yes {s : S} {c : Int} (t : Int) (h : (ok s && cas.caseOk c) = true) : factsOf s c t = ⟨(vt.voteThree s.sp 3).1, (vt.voteThree s.sp 3).2, (vt.voteTwo s.he 3 10).1, (vt.voteTwo s.he 3 10).2, c, s.ar, s.wn, btw t 0 1000⟩ := if_pos h
theorem put8 {w : World} {g : Nat} {t : TypeId} {a b c d e f i j : Value} (h : Has w g t #[a, b, c, d, e, f, i, j]) (a' b' c' d' e' f' i' j' : Value) :
    Has ((((((((w.setCell ⟨g, 0, none⟩ a').setCell ⟨g, 1, none⟩ b').setCell ⟨g, 2, none⟩ c').setCell ⟨g, 3, none⟩ d').setCell ⟨g, 4, none⟩ e').setCell ⟨g, 5, none⟩ f').setCell ⟨g, 6, none⟩ i').setCell ⟨g, 7, none⟩ j') g t #[a', b', c', d', e', f', i', j'] := by
  have h0 := Has.put h 0 a' (cs' := #[a', b, c, d, e, f, i, j]) rfl
  have h1 := Has.put h0 1 b' (cs' := #[a', b', c, d, e, f, i, j]) rfl
  have h2 := Has.put h1 2 c' (cs' := #[a', b', c', d, e, f, i, j]) rfl
  have h3 := Has.put h2 3 d' (cs' := #[a', b', c', d', e, f, i, j]) rfl
  have h4 := Has.put h3 4 e' (cs' := #[a', b', c', d', e', f, i, j]) rfl
  have h5 := Has.put h4 5 f' (cs' := #[a', b', c', d', e', f', i, j]) rfl
  have h6 := Has.put h5 6 i' (cs' := #[a', b', c', d', e', f', i', j]) rfl
  have h7 := Has.put h6 7 j' (cs' := #[a', b', c', d', e', f', i', j']) rfl
  exact h7
theorem gr8 {a w : World} {g : Nat} (h : a.grownBy w none) (hg : a.heap.size ≤ g) (u0 u1 u2 u3 u4 u5 u6 u7 : Value) :
    a.grownBy ((((((((w.setCell ⟨g, 0, none⟩ u0).setCell ⟨g, 1, none⟩ u1).setCell ⟨g, 2, none⟩ u2).setCell ⟨g, 3, none⟩ u3).setCell ⟨g, 4, none⟩ u4).setCell ⟨g, 5, none⟩ u5).setCell ⟨g, 6, none⟩ u6).setCell ⟨g, 7, none⟩ u7) none :=
  gr_new (gr_new (gr_new (gr_new (gr_new (gr_new (gr_new (gr_new h hg _ _) hg _ _) hg _ _) hg _ _) hg _ _) hg _ _) hg _ _) hg _ _

set_option maxHeartbeats 4000000 in
theorem specFacts (s : S) (p : P) (c t : Int) (w : World) (h : Arg w s p) (hb : Bd s 1048576) : Calls Tryz.prog 12 #[sv s p, .int .i64 c, .int .i64 t] w (Ret (fac (factsOf s c t)) w) := by
  have A0 := (Has.fresh w 27 (cs6 s p)).alloc (Obj.cells (cs8 zF) 35)
  have R0 := Has.fresh (w.alloc (Obj.cells (cs6 s p) 27)) 35 (cs8 zF)
  have g0 := gr_alloc (World.grownBy_alloc w (Obj.cells (cs6 s p) 27) none) (Obj.cells (cs8 zF) 35)
  simp only [World.size_alloc] at R0
  have hl1 := hb.sp
  have hl2 := hb.he
  have cO := fun W (k : Arg W s p) => specSensesOk s p W k hb
  have cC := cas.specCaseOk c
  have hn := factsOf_no (s := s) (c := c) t
  have hy := factsOf_yes (s := s) (c := c) t
  obtain ⟨⟨c0, c1, c2⟩, c3, c4, c5⟩ := six A0
  cases h1 : ok s
  · rw [h1] at cO hn
    rw [hn rfl]
    clear hn hy h1 cC
    go_enter Tryz.func12, Tryz.ntmps12
    go_wp2_with fail
    refine (cO _ (h.kept g0)).mono ?_
    rintro e w1 ⟨rfl, g1⟩
    have R1 := R0.grown g1 (by simp)
    obtain ⟨r0, r1, r2, r3, r4, r5, r6, r7⟩ := eight R1
    obtain ⟨f0, f1, f2, f3, f4, f5, f6, f7⟩ := free8 R1
    go_wp2_with fail
    obtain ⟨u0, u1, u2, u3, u4, u5, u6, u7⟩ := eight (put8 R1 (.int .i64 0) (.bool false) (.int .i64 0) (.bool false) (.int .i64 0) (.bool false) (.int .i64 0) (.int .i64 0))
    exact bodyPost_ret (v := fac zF) (by simp [results, Tryz.results12, go_sem, u0, u1, u2, u3, u4, u5, u6, u7, zF]) rfl ⟨rfl, gr8 (gr_trans g0 g1) (by omega) _ _ _ _ _ _ _ _⟩
  · rw [h1] at cO hn hy
    cases h2 : cas.caseOk c
    · rw [h2] at cC hn
      rw [hn rfl]
      clear hn hy h1 h2
      go_enter Tryz.func12, Tryz.ntmps12
      go_wp2_with fail
      refine (cO _ (h.kept g0)).mono ?_
      rintro e w1 ⟨rfl, g1⟩
      have R1 := R0.grown g1 (by simp)
      obtain ⟨r0, r1, r2, r3, r4, r5, r6, r7⟩ := eight R1
      obtain ⟨f0, f1, f2, f3, f4, f5, f6, f7⟩ := free8 R1
      go_wp2_with fail
      refine (cC _).mono ?_
      rintro e w2 ⟨rfl, rfl⟩
      go_wp2_with fail
      obtain ⟨u0, u1, u2, u3, u4, u5, u6, u7⟩ := eight (put8 R1 (.int .i64 0) (.bool false) (.int .i64 0) (.bool false) (.int .i64 0) (.bool false) (.int .i64 0) (.int .i64 0))
      exact bodyPost_ret (v := fac zF) (by simp [results, Tryz.results12, go_sem, u0, u1, u2, u3, u4, u5, u6, u7, zF]) rfl ⟨rfl, gr8 (gr_trans g0 g1) (by omega) _ _ _ _ _ _ _ _⟩
    · rw [h2] at cC hy
      rw [hy rfl]
      clear hn hy h1 h2
      have cT := fun W (k : rd.Arg W p.a1 s.sp) => vt.specVoteThree p.a1 p.c1 s.sp 3 W k hl1
      have cU := fun W (k : rd.Arg W p.a2 s.he) => vt.specVoteTwo p.a2 p.c2 s.he 3 10 W k hl2
      have cB := fun W => fix.specBetween t 0 1000 W
      generalize vt.voteThree s.sp 3 = v3 at *
      generalize vt.voteTwo s.he 3 10 = v2 at *
      generalize btw t 0 1000 = T at *
      obtain ⟨x3, o3⟩ := v3
      obtain ⟨x2, o2⟩ := v2
      go_enter Tryz.func12, Tryz.ntmps12
      go_wp2_with fail
      refine (cO _ (h.kept g0)).mono ?_
      rintro e w1 ⟨rfl, g1⟩
      replace A0 := A0.grown g1 (by simp)
      replace R0 := R0.grown g1 (by simp)
      replace g0 := gr_trans g0 g1
      clear g1 c0 c1 c2 c3 c4 c5
      obtain ⟨⟨c0, c1, c2⟩, c3, c4, c5⟩ := six A0
      go_wp2_with fail
      refine (cC _).mono ?_
      rintro e w2 ⟨rfl, rfl⟩
      go_wp2_with fail
      refine (cT _ (h.kept g0).sp).mono ?_
      rintro e w3 ⟨rfl, g1⟩
      replace A0 := A0.grown g1 (by simp)
      replace R0 := R0.grown g1 (by simp)
      replace g0 := gr_trans g0 g1
      clear g1 c0 c1 c2 c3 c4 c5
      obtain ⟨⟨c0, c1, c2⟩, c3, c4, c5⟩ := six A0
      go_wp2_with fail
      refine (cU _ (h.kept g0).he).mono ?_
      rintro e w4 ⟨rfl, g1⟩
      replace A0 := A0.grown g1 (by simp)
      replace R0 := R0.grown g1 (by simp)
      replace g0 := gr_trans g0 g1
      clear g1 c0 c1 c2 c3 c4 c5 cO cC cT cU
      obtain ⟨⟨c0, c1, c2⟩, c3, c4, c5⟩ := six A0
      have q3 : ∀ d os, (Go.Sort.grow (redrawn w4 d) os).cell? ⟨w.heap.size, 3, none⟩ = some (.int .i64 s.wn) := cell_regrown c3
      have q4 : ∀ d os, (Go.Sort.grow (redrawn w4 d) os).cell? ⟨w.heap.size, 4, none⟩ = some (.bool s.ar) := cell_regrown c4
      go_upto_region 5 with fail
      refine region_below_tail 12 (by kernel_rfl) (by kernel_rfl) ?_
      simp only [List.take_succ_cons, List.take_zero, List.drop_succ_cons, List.drop_zero]
      repeat (quiet_step (first | (go_at_call 44; with_reducible exact rg_same (cB _)) | fail))
      refine wpQuiet_nil ?_
      intro _ hw'
      obtain ⟨⟨dq, osq⟩, hw''⟩ := hw'
      subst hw''
      have gq := gr_rg w4 dq osq
      replace R0 := R0.grown gq (by simp)
      replace g0 := gr_trans g0 gq
      clear gq q3 q4 c0 c1 c2 c3 c4 c5 A0 cB
      generalize Go.Sort.grow (redrawn w4 dq) osq = w5 at *
      obtain ⟨r0, r1, r2, r3, r4, r5, r6, r7⟩ := eight R0
      obtain ⟨f0, f1, f2, f3, f4, f5, f6, f7⟩ := free8 R0
      go_wp2_with fail
      obtain ⟨u0, u1, u2, u3, u4, u5, u6, u7⟩ := eight (put8 R0 (.int .i64 x3) (.bool o3) (.int .i64 x2) (.bool o2) (.int .i64 c) (.bool s.ar) (.int .i64 s.wn) (.int .i64 T))
      exact bodyPost_ret (v := fac ⟨x3, o3, x2, o2, c, s.ar, s.wn, T⟩) (by simp [results, Tryz.results12, go_sem, u0, u1, u2, u3, u4, u5, u6, u7]) rfl ⟨rfl, gr8 g0 (by omega) _ _ _ _ _ _ _ _⟩
end Go.Proofs.YtdikhdfpcipdbaaGreatDoor.se
