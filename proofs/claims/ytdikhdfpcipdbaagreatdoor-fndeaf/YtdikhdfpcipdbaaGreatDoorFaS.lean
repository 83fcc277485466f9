/- Chapter 9: Watched of the model. -/
import Derived.Test.YtdikhdfpcipdbaaGreatDoorFaW
namespace Go.Proofs.YtdikhdfpcipdbaaGreatDoor.fan
open Go.ChangeShapes Go.WideShapes Go.ChangeAt Go.RowKit
open Go.Proofs.YtdikhdfpcipdbaaGreatDoor.nums Go.Proofs.YtdikhdfpcipdbaaGreatDoor.mem
open Go.Proofs.YtdikhdfpcipdbaaGreatDoor.rd (R okR fresh three set3 fresh1 okR_iff)
open Go.Proofs.YtdikhdfpcipdbaaGreatDoor.bnc (feel inb_iff inb_no RetB)
open Go.Proofs.YtdikhdfpcipdbaaGreatDoor.tab (Ret quiet_w wpList_make_has)
open Go.Proofs.YtdikhdfpcipdbaaGreatDoor.qt
set_option linter.unusedVariables false

set_option maxHeartbeats 2000000 in
theorem specWatched_no (N wn v a : Int) (on out o : Bool) (w : World) (hr : right (N, on, out) wn (v, a, o) = false) : Calls Tryz.prog 160 #[.agg #[.int .i64 N, .bool on, .bool out], .int .i64 wn, .agg #[.int .i64 v, .int .i64 a, .bool o]] w (RetF (0, false, false) w) := by
  obtain ⟨a0, a1, a2, g0⟩ := w3_has w N on out v a o
  rcases right_no hr with i0 | ⟨i0, i1⟩ | ⟨i0, i1, i2⟩
  all_goals
    clear hr
    go_enter Tryz.func160, Tryz.ntmps160
    go_wp2_with fail
    refine (specFanOk _ _ _ _).mono ?_
    rintro e w1 ⟨rfl, hg⟩
    replace a1 := a1.grown hg (by simp)
    replace a2 := a2.grown hg (by simp)
    replace g0 := gr_trans g0 hg
    clear hg a0
    obtain ⟨c0, c1, c2, f0, f1, f2⟩ := three a2
    obtain ⟨d0, d1, d2, _, _, _⟩ := three a1
  · go_wp2_with fail
    obtain ⟨k0, k1, k2, _, _, _⟩ := three (set3 a2 (.int .i64 0) (.bool false) (.bool false))
    exact bodyPost_ret (v := .agg #[.int .i64 0, .bool false, .bool false]) (by simp [results, Tryz.results160, go_sem, k0, k1, k2]) rfl ⟨rfl, gr_new (gr_new (gr_new g0 (by omega) _ _) (by omega) _ _) (by omega) _ _⟩
  · go_wp2_with (go_at_call 24; refine (fix.specIn _ _ _ _).mono ?_; rintro e w' ⟨rfl, rfl⟩)
    obtain ⟨k0, k1, k2, _, _, _⟩ := three (set3 a2 (.int .i64 0) (.bool false) (.bool false))
    exact bodyPost_ret (v := .agg #[.int .i64 0, .bool false, .bool false]) (by simp [results, Tryz.results160, go_sem, k0, k1, k2]) rfl ⟨rfl, gr_new (gr_new (gr_new g0 (by omega) _ _) (by omega) _ _) (by omega) _ _⟩
  · go_wp2_with (go_at_call 24; refine (fix.specIn _ _ _ _).mono ?_; rintro e w' ⟨rfl, rfl⟩)
    refine (rd.specReadingOk _ _ _ _).mono ?_
    rintro e w2 ⟨rfl, hg⟩
    replace a2 := a2.grown hg (by simp)
    replace g0 := gr_trans g0 hg
    clear c0 c1 c2 f0 f1 f2 d0 d1 d2
    obtain ⟨c0, c1, c2, f0, f1, f2⟩ := three a2
    go_wp2_with fail
    obtain ⟨k0, k1, k2, _, _, _⟩ := three (set3 a2 (.int .i64 0) (.bool false) (.bool false))
    exact bodyPost_ret (v := .agg #[.int .i64 0, .bool false, .bool false]) (by simp [results, Tryz.results160, go_sem, k0, k1, k2]) rfl ⟨rfl, gr_new (gr_new (gr_new g0 (by omega) _ _) (by omega) _ _) (by omega) _ _⟩


theorem rg_b {P : Program} {f : FuncId} {args : Array Value} {w : World} {d : Nat} {os : Array Obj} {x : bnc.B}
    (h : Calls P f args (Go.Sort.grow (redrawn w d) os) (RetB x (Go.Sort.grow (redrawn w d) os))) : Calls P f args (Go.Sort.grow (redrawn w d) os) fun e w'' => e = .returned (.agg #[.int .i64 x.1, .bool x.2]) ∧ ∃ p : Regrown, w'' = Go.Sort.grow (redrawn w p.d) p.os := rg_ret h
theorem specFresh_at {v a : Int} {o b : Bool} (h : fresh (v, a, o) 3 = b) (W : World) : Calls Tryz.prog 103 #[.agg #[.int .i64 v, .int .i64 a, .bool o], .int .i64 3] W (Ret (.bool b) W) := h ▸ rd.specIsFresh v a 3 o W
theorem specFeel_at {N : Int} {on s : Bool} {M : Int} {O : Bool} (h : feel 5 5 (N, on) s = (M, O)) (h0 : 0 ≤ N) (h1 : N ≤ 100) (W : World) : Calls Tryz.prog 173 #[.agg #[.int .i64 N, .bool on], .bool s, .int .i64 5, .int .i64 5] W (RetB (M, O) W) := h ▸ bnc.specFeel N on s 5 5 W h0 h1
theorem specFeel_dbl {N v wn : Int} {on : Bool} {M : Int} {O : Bool} (hv0 : -1000000 ≤ v) (hv1 : v ≤ 1000000) (h : feel 5 5 (N, on) (decide (2 * v < wn)) = (M, O)) (h0 : 0 ≤ N) (h1 : N ≤ 100) (W : World) : Calls Tryz.prog 173 #[.agg #[.int .i64 N, .bool on], .bool (decide (IntKind.i64.wrap (2 * v) < wn)), .int .i64 5, .int .i64 5] W (RetB (M, O) W) := by
  have e : IntKind.i64.wrap (2 * v) = 2 * v := IntWalk.i64_in _ (by omega)
  rw [e]
  exact specFeel_at h h0 h1 W
theorem feel_ex (N : Int) (on out s : Bool) : ∃ M O, feel 5 5 (N, on) s = (M, O) ∧ outed (felt (N, on, out) s) = (M, O, out || O) := ⟨_, _, rfl, rfl⟩
theorem low_old {v a wn : Int} {o : Bool} (h : fresh (v, a, o) 3 = false) : lowB wn (v, a, o) = true := by unfold lowB; rw [h]; rfl
theorem low_new {v a wn : Int} {o : Bool} (h : fresh (v, a, o) 3 = true) : lowB wn (v, a, o) = decide (2 * v < wn) := by unfold lowB; rw [h]; rfl

set_option maxHeartbeats 2000000 in
theorem specWatched_ok (N wn v a : Int) (on out o : Bool) (w : World) (hr : right (N, on, out) wn (v, a, o) = true) : Calls Tryz.prog 160 #[.agg #[.int .i64 N, .bool on, .bool out], .int .i64 wn, .agg #[.int .i64 v, .int .i64 a, .bool o]] w (RetF (watched (N, on, out) wn (v, a, o)) w) := by
  obtain ⟨a0, a1, a2, g0⟩ := w3_has w N on out v a o
  obtain ⟨⟨h0, h1⟩, ⟨hw0, hw1⟩, i2⟩ := right_iff.1 hr
  obtain ⟨hv0, hv1⟩ := (okR_iff.1 i2).1
  have i0 : inb N 0 100 = true := inb_iff.2 ⟨h0, h1⟩
  have i1 : inb wn 0 1000 = true := inb_iff.2 ⟨hw0, hw1⟩
  by_cases hw : 100 ≤ wn
  · rw [watched_hi hr hw]
    clear hr
    go_enter Tryz.func160, Tryz.ntmps160
    go_wp2_with fail
    refine (specFanOk _ _ _ _).mono ?_
    rintro e w1 ⟨rfl, hg⟩
    replace a0 := a0.grown hg (by simp)
    replace a1 := a1.grown hg (by simp)
    replace a2 := a2.grown hg (by simp)
    replace g0 := gr_trans g0 hg
    clear hg
    obtain ⟨d0, d1, d2, _, _, _⟩ := three a1
    go_wp2_with (go_at_call 24; refine (fix.specIn _ _ _ _).mono ?_; rintro e w' ⟨rfl, rfl⟩)
    refine (rd.specReadingOk _ _ _ _).mono ?_
    rintro e w2 ⟨rfl, hg⟩
    replace a0 := a0.grown hg (by simp)
    replace a1 := a1.grown hg (by simp)
    replace a2 := a2.grown hg (by simp)
    replace g0 := gr_trans g0 hg
    clear hg d0 d1 d2 i0 i1
    obtain ⟨c0, c1, c2, f0, f1, f2⟩ := three a0
    go_wp2_with fail
    clear i2 c0 c1 c2 f0 f1 f2
    obtain ⟨c0, c1, c2⟩ := three_rg a0
    obtain ⟨d0, d1, d2⟩ := three_rg a1
    by_cases hF : fresh (v, a, o) 3 = true
    · have cF := specFresh_at hF
      obtain ⟨M, O, hff, hE0⟩ := feel_ex N on out (decide (2 * v < wn))
      have hE := Lib.hid (show outed (felt (N, on, out) (lowB wn (v, a, o))) = (M, O, out || O) by rw [low_new hF]; exact hE0)
      have cL := specFeel_dbl hv0 hv1 hff h0 h1
      clear hE0 hff hF
      refine region_below_tail 14 (by kernel_rfl) (by kernel_rfl) ?_
      simp only [List.take_succ_cons, List.take_zero, List.drop_succ_cons, List.drop_zero]
      repeat (quiet_step (first | (go_at_call 103; exact rg_ret (cF _)) | (go_at_call 173; exact rg_b (cL _))))
      refine wpQuiet_nil ?_
      intro _ hw'
      obtain ⟨⟨dq, osq⟩, hw''⟩ := hw'
      subst hw''
      have gq := gr_rg w2 dq osq
      replace a0 := a0.grown gq (by simp)
      replace a2 := a2.grown gq (by simp)
      replace g0 := gr_trans g0 gq
      clear gq c0 c1 c2 d0 d1 d2 a1 cF cL
      generalize Go.Sort.grow (redrawn w2 dq) osq = w3 at *
      obtain ⟨c0, c1, c2, f0, f1, f2⟩ := three a0
      obtain ⟨d0, d1, d2, p0, p1, p2⟩ := three a2
      cases out
      · go_wp2_with fail
        have b1 := set3 (((a2.set_other (g' := w.heap.size) (by omega) 0 (.int .i64 M)).set_other (g' := w.heap.size) (by omega) 1 (.bool O)).set_other (g' := w.heap.size) (by omega) 2 (.bool O)) (.int .i64 M) (.bool O) (.bool O)
        obtain ⟨k0, k1, k2, _, _, _⟩ := three b1
        exact bodyPost_ret (v := .agg #[.int .i64 M, .bool O, .bool O]) (by simp [results, Tryz.results160, go_sem, k0, k1, k2]) rfl ⟨by rw [hE.out]; rfl, gr_new (gr_new (gr_new (gr_new (gr_new (gr_new g0 (by omega) _ _) (by omega) _ _) (by omega) _ _) (by omega) _ _) (by omega) _ _) (by omega) _ _⟩
      · go_wp2_with fail
        have b1 := set3 (((a2.set_other (g' := w.heap.size) (by omega) 0 (.int .i64 M)).set_other (g' := w.heap.size) (by omega) 1 (.bool O)).set_other (g' := w.heap.size) (by omega) 2 (.bool true)) (.int .i64 M) (.bool O) (.bool true)
        obtain ⟨k0, k1, k2, _, _, _⟩ := three b1
        exact bodyPost_ret (v := .agg #[.int .i64 M, .bool O, .bool true]) (by simp [results, Tryz.results160, go_sem, k0, k1, k2]) rfl ⟨by rw [hE.out]; rfl, gr_new (gr_new (gr_new (gr_new (gr_new (gr_new g0 (by omega) _ _) (by omega) _ _) (by omega) _ _) (by omega) _ _) (by omega) _ _) (by omega) _ _⟩
    · have hF' : fresh (v, a, o) 3 = false := by simpa using hF
      have cF := specFresh_at hF'
      obtain ⟨M, O, hff, hE0⟩ := feel_ex N on out true
      have hE := Lib.hid (show outed (felt (N, on, out) (lowB wn (v, a, o))) = (M, O, out || O) by rw [low_old hF']; exact hE0)
      clear hF hF'
      have cL := specFeel_at hff h0 h1
      clear hE0 hff
      refine region_below_tail 14 (by kernel_rfl) (by kernel_rfl) ?_
      simp only [List.take_succ_cons, List.take_zero, List.drop_succ_cons, List.drop_zero]
      repeat (quiet_step (first | (go_at_call 103; exact rg_ret (cF _)) | (go_at_call 173; exact rg_b (cL _))))
      refine wpQuiet_nil ?_
      intro _ hw'
      obtain ⟨⟨dq, osq⟩, hw''⟩ := hw'
      subst hw''
      have gq := gr_rg w2 dq osq
      replace a0 := a0.grown gq (by simp)
      replace a2 := a2.grown gq (by simp)
      replace g0 := gr_trans g0 gq
      clear gq c0 c1 c2 d0 d1 d2 a1 cF cL
      generalize Go.Sort.grow (redrawn w2 dq) osq = w3 at *
      obtain ⟨c0, c1, c2, f0, f1, f2⟩ := three a0
      obtain ⟨d0, d1, d2, p0, p1, p2⟩ := three a2
      cases out
      · go_wp2_with fail
        have b1 := set3 (((a2.set_other (g' := w.heap.size) (by omega) 0 (.int .i64 M)).set_other (g' := w.heap.size) (by omega) 1 (.bool O)).set_other (g' := w.heap.size) (by omega) 2 (.bool O)) (.int .i64 M) (.bool O) (.bool O)
        obtain ⟨k0, k1, k2, _, _, _⟩ := three b1
        exact bodyPost_ret (v := .agg #[.int .i64 M, .bool O, .bool O]) (by simp [results, Tryz.results160, go_sem, k0, k1, k2]) rfl ⟨by rw [hE.out]; rfl, gr_new (gr_new (gr_new (gr_new (gr_new (gr_new g0 (by omega) _ _) (by omega) _ _) (by omega) _ _) (by omega) _ _) (by omega) _ _) (by omega) _ _⟩
      · go_wp2_with fail
        have b1 := set3 (((a2.set_other (g' := w.heap.size) (by omega) 0 (.int .i64 M)).set_other (g' := w.heap.size) (by omega) 1 (.bool O)).set_other (g' := w.heap.size) (by omega) 2 (.bool true)) (.int .i64 M) (.bool O) (.bool true)
        obtain ⟨k0, k1, k2, _, _, _⟩ := three b1
        exact bodyPost_ret (v := .agg #[.int .i64 M, .bool O, .bool true]) (by simp [results, Tryz.results160, go_sem, k0, k1, k2]) rfl ⟨by rw [hE.out]; rfl, gr_new (gr_new (gr_new (gr_new (gr_new (gr_new g0 (by omega) _ _) (by omega) _ _) (by omega) _ _) (by omega) _ _) (by omega) _ _) (by omega) _ _⟩
  · rw [watched_low hr (by omega)]
    clear hr
    go_enter Tryz.func160, Tryz.ntmps160
    go_wp2_with fail
    refine (specFanOk _ _ _ _).mono ?_
    rintro e w1 ⟨rfl, hg⟩
    replace a0 := a0.grown hg (by simp)
    replace a1 := a1.grown hg (by simp)
    replace a2 := a2.grown hg (by simp)
    replace g0 := gr_trans g0 hg
    clear hg
    obtain ⟨d0, d1, d2, _, _, _⟩ := three a1
    go_wp2_with (go_at_call 24; refine (fix.specIn _ _ _ _).mono ?_; rintro e w' ⟨rfl, rfl⟩)
    refine (rd.specReadingOk _ _ _ _).mono ?_
    rintro e w2 ⟨rfl, hg⟩
    replace a0 := a0.grown hg (by simp)
    replace a1 := a1.grown hg (by simp)
    replace a2 := a2.grown hg (by simp)
    replace g0 := gr_trans g0 hg
    clear hg d0 d1 d2 i0 i1
    obtain ⟨c0, c1, c2, f0, f1, f2⟩ := three a0
    obtain ⟨d0, d1, d2, p0, p1, p2⟩ := three a2
    cases out
    · go_wp2_with fail
      have b1 := set3 (a2.set_other (g' := w.heap.size) (by omega) 2 (.bool on)) (.int .i64 N) (.bool on) (.bool on)
      obtain ⟨k0, k1, k2, _, _, _⟩ := three b1
      exact bodyPost_ret (v := .agg #[.int .i64 N, .bool on, .bool on]) (by simp [results, Tryz.results160, go_sem, k0, k1, k2]) rfl ⟨by simp [outed], gr_new (gr_new (gr_new (gr_new g0 (by omega) _ _) (by omega) _ _) (by omega) _ _) (by omega) _ _⟩
    · go_wp2_with fail
      have b1 := set3 (a2.set_other (g' := w.heap.size) (by omega) 2 (.bool true)) (.int .i64 N) (.bool on) (.bool true)
      obtain ⟨k0, k1, k2, _, _, _⟩ := three b1
      exact bodyPost_ret (v := .agg #[.int .i64 N, .bool on, .bool true]) (by simp [results, Tryz.results160, go_sem, k0, k1, k2]) rfl ⟨by simp [outed], gr_new (gr_new (gr_new (gr_new g0 (by omega) _ _) (by omega) _ _) (by omega) _ _) (by omega) _ _⟩

theorem specWatched (N wn v a : Int) (on out o : Bool) (w : World) : Calls Tryz.prog 160 #[.agg #[.int .i64 N, .bool on, .bool out], .int .i64 wn, .agg #[.int .i64 v, .int .i64 a, .bool o]] w (RetF (watched (N, on, out) wn (v, a, o)) w) := by
  by_cases h : right (N, on, out) wn (v, a, o) = true
  · exact specWatched_ok N wn v a on out o w h
  · have h' : right (N, on, out) wn (v, a, o) = false := by simpa using h
    rw [watched_no h']
    exact specWatched_no N wn v a on out o w h'
end Go.Proofs.YtdikhdfpcipdbaaGreatDoor.fan
