/- FactsOf of the program. -/
import Derived.Test.YtdikhdfpcipdbaaGreatDoorSeFacts
import Derived.Deep.RegionHeld3
import Derived.Deep.DeepCutAuto
namespace Go.Proofs.YtdikhdfpcipdbaaGreatDoor.se
open Go.ChangeShapes Go.WideShapes Go.ChangeAt Go.RowKit
open Go.Proofs.YtdikhdfpcipdbaaGreatDoor.nums Go.Proofs.YtdikhdfpcipdbaaGreatDoor.mem
open Go.Proofs.YtdikhdfpcipdbaaGreatDoor.tab (Ret)
open Go.Proofs.YtdikhdfpcipdbaaGreatDoor.md (Fx cs8 fac eight free8)
theorem gr_drewQ {a w : World} {row : Option Nat} (h : a.grownBy w row) : a.grownBy w.drew row := gr_drewN h 1
open Go.Proofs.YtdikhdfpcipdbaaGreatDoor.qt (region_below_tail rg_ret rg_same gr_rg)
set_option linter.unusedVariables false


set_option maxHeartbeats 4000000 in
theorem implFacts (s : S) (p : P) (c t : Int) (w : World) (h : Arg w s p) (hb : Bd s 1048576) (hv : Vals w) : Calls Tryz.prog 9 #[sv s p, .int .i64 c, .int .i64 t] w (Ret (fac (factsOf s c t)) w) := by
  have A0 := (Has.fresh w 27 (cs6 s p)).alloc (Obj.cells (cs8 zF) 35)
  have R0 := Has.fresh (w.alloc (Obj.cells (cs6 s p) 27)) 35 (cs8 zF)
  have g0 := gr_alloc (World.grownBy_alloc w (Obj.cells (cs6 s p) 27) none) (Obj.cells (cs8 zF) 35)
  simp only [World.size_alloc] at R0
  have hl1 := hb.sp
  have hl2 := hb.he
  have cO := fun W (k : Arg W s p) (k2 : Vals W) => implSensesOk s p W k hb k2
  have cC := cas.implCaseOk c
  have hn := factsOf_no (s := s) (c := c) t
  have hy := factsOf_yes (s := s) (c := c) t
  obtain ⟨⟨c0, c1, c2⟩, c3, c4, c5⟩ := six A0
  cases h1 : ok s
  · rw [h1] at cO hn
    rw [hn rfl]
    clear hn hy h1 cC
    go_enter Tryz.func9, Tryz.ntmps9
    go_wp2_with fail
    refine (cO _ (h.kept g0) (hv.kept g0)).mono ?_
    rintro e w1 ⟨rfl, g1⟩
    have R1 := R0.grown g1 (by simp)
    obtain ⟨r0, r1, r2, r3, r4, r5, r6, r7⟩ := eight R1
    obtain ⟨f0, f1, f2, f3, f4, f5, f6, f7⟩ := free8 R1
    go_wp2_with fail
    obtain ⟨u0, u1, u2, u3, u4, u5, u6, u7⟩ := eight (put8 R1 (.int .i64 0) (.bool false) (.int .i64 0) (.bool false) (.int .i64 0) (.bool false) (.int .i64 0) (.int .i64 0))
    exact bodyPost_ret (v := fac zF) (by simp [results, Tryz.results9, go_sem, u0, u1, u2, u3, u4, u5, u6, u7, zF]) rfl ⟨rfl, gr8 (gr_trans g0 g1) (by omega) _ _ _ _ _ _ _ _⟩
  · rw [h1] at cO hn hy
    cases h2 : cas.caseOk c
    · rw [h2] at cC hn
      rw [hn rfl]
      clear hn hy h1 h2
      go_enter Tryz.func9, Tryz.ntmps9
      go_wp2_with fail
      refine (cO _ (h.kept g0) (hv.kept g0)).mono ?_
      rintro e w1 ⟨rfl, g1⟩
      have R1 := R0.grown g1 (by simp)
      obtain ⟨r0, r1, r2, r3, r4, r5, r6, r7⟩ := eight R1
      obtain ⟨f0, f1, f2, f3, f4, f5, f6, f7⟩ := free8 R1
      go_wp2_with fail
      refine (cC _).mono ?_
      rintro e w2 ⟨rfl, rfl⟩
      go_wp2_with fail
      obtain ⟨u0, u1, u2, u3, u4, u5, u6, u7⟩ := eight (put8 R1 (.int .i64 0) (.bool false) (.int .i64 0) (.bool false) (.int .i64 0) (.bool false) (.int .i64 0) (.int .i64 0))
      exact bodyPost_ret (v := fac zF) (by simp [results, Tryz.results9, go_sem, u0, u1, u2, u3, u4, u5, u6, u7, zF]) rfl ⟨rfl, gr8 (gr_trans g0 g1) (by omega) _ _ _ _ _ _ _ _⟩
    · rw [h2] at cC hy
      rw [hy rfl]
      clear hn hy h1 h2
      have cT := fun W (k : rd.Arg W p.a1 s.sp) => vt.implVoteThree p.a1 p.c1 s.sp 3 W k hl1
      have cU := fun W (k : rd.Arg W p.a2 s.he) => vt.implVoteTwo p.a2 p.c2 s.he 3 10 W k hl2
      have cB := fun W => fix.implBetween t 0 1000 W
      generalize vt.voteThree s.sp 3 = v3 at *
      generalize vt.voteTwo s.he 3 10 = v2 at *
      generalize btw t 0 1000 = T at *
      obtain ⟨x3, o3⟩ := v3
      obtain ⟨x2, o2⟩ := v2
      go_enter Tryz.func9, Tryz.ntmps9
      go_wp2_with fail
      refine (cO _ (h.kept g0) (hv.kept g0)).mono ?_
      rintro e w1 ⟨rfl, g1⟩
      replace A0 := A0.grown g1 (by simp)
      replace R0 := R0.grown g1 (by simp)
      replace g0 := gr_trans g0 g1
      clear g1 c0 c1 c2 c3 c4 c5
      obtain ⟨⟨c0, c1, c2⟩, c3, c4, c5⟩ := six A0
      go_wp2_with fail
      refine (cC _).mono ?_
      rintro e w2 ⟨rfl, rfl⟩
      go_upto_region 3 with fail
      generalize hsz : w1.heap.size = z1 at *
      have hlt : w.heap.size + 1 < z1 := by rw [← hsz]; exact R0.lt
      go_cut [7] (fun b wx => ∃ g, b = .pointer (some ⟨g, 0, none⟩) ∧ z1 ≤ g ∧ w1.grownBy wx none ∧ Has wx g 35 #[.int .i64 0, .bool false, .int .i64 0, .bool false, .int .i64 c, .bool s.ar, .int .i64 s.wn, .int .i64 T])
      case first =>
        have KS : ∀ W, w1.grownBy W none → (W.cell? ⟨w.heap.size, 3, none⟩ = some (.int .i64 s.wn) ∧ W.cell? ⟨w.heap.size, 4, none⟩ = some (.bool s.ar)) := fun W k => ⟨(A0.grown k (by simp)).cell 3, (A0.grown k (by simp)).cell 4⟩
        go_region_held3 (fun W => W.cell? ⟨w.heap.size, 3, none⟩ = some (.int .i64 s.wn) ∧ W.cell? ⟨w.heap.size, 4, none⟩ = some (.bool s.ar))
          (first | (refine KS _ ?_; (repeat (first | with_reducible exact gr_refl _ _ | with_reducible refine gr_drewQ ?_ | with_reducible refine gr_alloc ?_ _ | with_reducible refine gr_new ?_ (Nat.le_refl _) _ _)); done) | fail)
          (first | (go_at_call 34; refine (cB _).mono ?_; rintro e v ⟨rfl, rfl⟩) | fail)
        all_goals go_wp2_with fail
        all_goals go_meet
        all_goals refine ⟨_, rfl, Nat.le_refl _, gr_drewQ (World.grownBy_alloc _ _ _), ?_⟩
        all_goals exact hsz ▸ (show Has _ w1.heap.size _ _ from Has.fresh w1 35 #[.int .i64 0, .bool false, .int .i64 0, .bool false, .int .i64 c, .bool s.ar, .int .i64 s.wn, .int .i64 T])
      case rest =>
        obtain ⟨b, rfl, hbz, gx, F0⟩ := hcut
        have n0 : w.heap.size ≠ b := by omega
        have n1 : w.heap.size + 1 ≠ b := by omega
        have nb : w.heap.size ≤ b := by omega
        replace A0 := A0.grown gx (by simp)
        replace R0 := R0.grown gx (by simp)
        replace g0 := gr_trans g0 gx
        clear gx c0 c1 c2 c3 c4 c5 cO cC cB hsz
        obtain ⟨⟨c0, c1, c2⟩, c3, c4, c5⟩ := six A0
        go_wp2_with fail
        refine (cT _ (h.kept g0).sp).mono ?_
        rintro e w3 ⟨rfl, g1⟩
        replace A0 := A0.grown g1 (by simp)
        replace R0 := R0.grown g1 (by simp)
        replace F0 := F0.grown g1 (by simp)
        replace g0 := gr_trans g0 g1
        clear g1 c0 c1 c2 c3 c4 c5
        obtain ⟨⟨c0, c1, c2⟩, c3, c4, c5⟩ := six A0
        obtain ⟨r0, r1, r2, r3, r4, r5, r6, r7⟩ := eight F0
        obtain ⟨f0, f1, f2, f3, f4, f5, f6, f7⟩ := free8 F0
        go_wp2_with fail
        replace A0 := (A0.set_other n0 0 (.int .i64 x3)).set_other n0 1 (.bool o3)
        replace R0 := (R0.set_other n1 0 (.int .i64 x3)).set_other n1 1 (.bool o3)
        have F1 := Has.put F0 0 (.int .i64 x3) (cs' := #[.int .i64 x3, .bool false, .int .i64 0, .bool false, .int .i64 c, .bool s.ar, .int .i64 s.wn, .int .i64 T]) rfl
        replace F0 := Has.put F1 1 (.bool o3) (cs' := #[.int .i64 x3, .bool o3, .int .i64 0, .bool false, .int .i64 c, .bool s.ar, .int .i64 s.wn, .int .i64 T]) rfl
        replace g0 := gr_new (gr_new g0 nb 0 (.int .i64 x3)) nb 1 (.bool o3)
        clear c0 c1 c2 c3 c4 c5 r0 r1 r2 r3 r4 r5 r6 r7 f0 f1 f2 f3 f4 f5 f6 f7 F1
        generalize (w3.setCell ⟨b, 0, none⟩ (.int .i64 x3)).setCell ⟨b, 1, none⟩ (.bool o3) = w4 at *
        refine (cU _ (h.kept g0).he).mono ?_
        rintro e w5 ⟨rfl, g1⟩
        replace R0 := R0.grown g1 (by simp)
        replace F0 := F0.grown g1 (by simp)
        replace g0 := gr_trans g0 g1
        clear g1 A0 cT cU
        obtain ⟨r0, r1, r2, r3, r4, r5, r6, r7⟩ := eight F0
        obtain ⟨f0, f1, f2, f3, f4, f5, f6, f7⟩ := free8 F0
        obtain ⟨c0, c1, c2, c3, c4, c5, c6, c7⟩ := eight R0
        obtain ⟨d0, d1, d2, d3, d4, d5, d6, d7⟩ := free8 R0
        go_wp2_with fail
        have R1 := put8 ((R0.set_other n1 2 (.int .i64 x2)).set_other n1 3 (.bool o2)) (.int .i64 x3) (.bool o3) (.int .i64 x2) (.bool o2) (.int .i64 c) (.bool s.ar) (.int .i64 s.wn) (.int .i64 T)
        obtain ⟨u0, u1, u2, u3, u4, u5, u6, u7⟩ := eight R1
        exact bodyPost_ret (v := fac ⟨x3, o3, x2, o2, c, s.ar, s.wn, T⟩) (by simp [results, Tryz.results9, go_sem, u0, u1, u2, u3, u4, u5, u6, u7]) rfl ⟨rfl, gr8 (gr_new (gr_new g0 nb 2 (.int .i64 x2)) nb 3 (.bool o2)) (by omega) _ _ _ _ _ _ _ _⟩

end Go.Proofs.YtdikhdfpcipdbaaGreatDoor.se
