/- Chapter 9: Watched of the program and of the model. Chapter 9: Watched of the model. A list of a hundred and nine is its members. A list of one and thirty is its members. -/
import Derived.Test.YtdikhdfpcipdbaaGreatDoorG17
import Derived.Test.YtdikhdfpcipdbaaGreatDoorG13
import Derived.Test.YtdikhdfpcipdbaaGreatDoorG23
/- Chapter 9: Watched of the program and of the model. -/
namespace Go.Proofs.YtdikhdfpcipdbaaGreatDoor.fan
open Go.ChangeShapes Go.WideShapes Go.ChangeAt Go.RowKit
open Go.Proofs.YtdikhdfpcipdbaaGreatDoor.nums Go.Proofs.YtdikhdfpcipdbaaGreatDoor.mem
open Go.Proofs.YtdikhdfpcipdbaaGreatDoor.rd (R okR fresh three set3 fresh1 okR_iff)
open Go.Proofs.YtdikhdfpcipdbaaGreatDoor.bnc (feel inb_iff inb_no)
open Go.Proofs.YtdikhdfpcipdbaaGreatDoor.tab (Ret quiet_w wpList_make_has)
open Go.Proofs.YtdikhdfpcipdbaaGreatDoor.qt
set_option linter.unusedVariables false

/-- The ways a fan, a wish and a reading can be not right. -/
theorem right_no {N wn : Int} {on out : Bool} {r : R} (h : right (N, on, out) wn r = false) : inb N 0 100 = false ∨ (inb N 0 100 = true ∧ inb wn 0 1000 = false) ∨ (inb N 0 100 = true ∧ inb wn 0 1000 = true ∧ okR r = false) := by
  unfold right okF at h
  cases h1 : inb N 0 100 <;> cases h2 : inb wn 0 1000 <;> cases h3 : okR r <;> simp_all

/-- Three cells, in every world of the class. -/
theorem three_rg {w : World} {g : Nat} {t : TypeId} {a b c : Value} (h : Has w g t #[a, b, c]) : (∀ d os, (Go.Sort.grow (redrawn w d) os).cell? ⟨g, 0, none⟩ = some a) ∧ (∀ d os, (Go.Sort.grow (redrawn w d) os).cell? ⟨g, 1, none⟩ = some b) ∧ (∀ d os, (Go.Sort.grow (redrawn w d) os).cell? ⟨g, 2, none⟩ = some c) :=
  ⟨cell_regrown (three h).1, cell_regrown (three h).2.1, cell_regrown (three h).2.2.1⟩
/-- The three boxes that Watched lays at its start. -/
abbrev w3 (w : World) (N : Int) (on out : Bool) (v a : Int) (o : Bool) : World := ((w.alloc (Obj.cells #[.int .i64 N, .bool on, .bool out] 189)).alloc (Obj.cells #[.int .i64 v, .int .i64 a, .bool o] 42)).alloc (Obj.cells #[.int .i64 0, .bool false, .bool false] 189)
theorem w3_has (w : World) (N : Int) (on out : Bool) (v a : Int) (o : Bool) : Has (w3 w N on out v a o) w.heap.size 189 #[.int .i64 N, .bool on, .bool out] ∧ Has (w3 w N on out v a o) (w.heap.size + 1) 42 #[.int .i64 v, .int .i64 a, .bool o] ∧ Has (w3 w N on out v a o) (w.heap.size + 1 + 1) 189 #[.int .i64 0, .bool false, .bool false] ∧ w.grownBy (w3 w N on out v a o) none := by
  refine ⟨((Has.fresh _ _ _).alloc _).alloc _, (fresh1 _ _ _ _).alloc _, ?_, gr_alloc (gr_alloc (World.grownBy_alloc _ _ _) _) _⟩
  have := fresh1 (w.alloc (Obj.cells #[.int .i64 N, .bool on, .bool out] 189)) (Obj.cells #[.int .i64 v, .int .i64 a, .bool o] 42) 189 #[.int .i64 0, .bool false, .bool false]
  simpa using this

end Go.Proofs.YtdikhdfpcipdbaaGreatDoor.fan

/- Chapter 9: Watched of the model. -/
namespace Go.Proofs.YtdikhdfpcipdbaaGreatDoor.fan
open Go.ChangeShapes Go.WideShapes Go.ChangeAt Go.RowKit
open Go.Proofs.YtdikhdfpcipdbaaGreatDoor.nums Go.Proofs.YtdikhdfpcipdbaaGreatDoor.mem
open Go.Proofs.YtdikhdfpcipdbaaGreatDoor.rd (R okR fresh three set3 fresh1 okR_iff)
open Go.Proofs.YtdikhdfpcipdbaaGreatDoor.bnc (feel inb_iff inb_no RetB)
open Go.Proofs.YtdikhdfpcipdbaaGreatDoor.tab (Ret quiet_w wpList_make_has)
open Go.Proofs.YtdikhdfpcipdbaaGreatDoor.qt
set_option linter.unusedVariables false

set_option maxHeartbeats 2000000 in
theorem specWatched_no (N wn v a : Int) (on out o : Bool) (w : World) (hr : right (N, on, out) wn (v, a, o) = false) : Calls Tryz.prog 160 #[.agg #[.int .i64 N, .bool on, .bool out], .int .i64 wn, .agg #[.int .i64 v, .int .i64 a, .bool o]] w (RetF (0, false, false) w) := by
  obtain ⟨a0, a1, a2, g0⟩ := w3_has w N on out v a o
  rcases right_no hr with i0 | ⟨i0, i1⟩ | ⟨i0, i1, i2⟩
  all_goals
    clear hr
    go_enter Tryz.func160, Tryz.ntmps160
    go_wp2_with fail
    refine (specFanOk _ _ _ _).mono ?_
    rintro e w1 ⟨rfl, hg⟩
    replace a1 := a1.grown hg (by simp)
    replace a2 := a2.grown hg (by simp)
    replace g0 := gr_trans g0 hg
    clear hg a0
    obtain ⟨c0, c1, c2, f0, f1, f2⟩ := three a2
    obtain ⟨d0, d1, d2, _, _, _⟩ := three a1
  · go_wp2_with fail
    obtain ⟨k0, k1, k2, _, _, _⟩ := three (set3 a2 (.int .i64 0) (.bool false) (.bool false))
    exact bodyPost_ret (v := .agg #[.int .i64 0, .bool false, .bool false]) (by simp [results, Tryz.results160, go_sem, k0, k1, k2]) rfl ⟨rfl, gr_new (gr_new (gr_new g0 (by omega) _ _) (by omega) _ _) (by omega) _ _⟩
  · go_wp2_with (go_at_call 24; refine (fix.specIn _ _ _ _).mono ?_; rintro e w' ⟨rfl, rfl⟩)
    obtain ⟨k0, k1, k2, _, _, _⟩ := three (set3 a2 (.int .i64 0) (.bool false) (.bool false))
    exact bodyPost_ret (v := .agg #[.int .i64 0, .bool false, .bool false]) (by simp [results, Tryz.results160, go_sem, k0, k1, k2]) rfl ⟨rfl, gr_new (gr_new (gr_new g0 (by omega) _ _) (by omega) _ _) (by omega) _ _⟩
  · go_wp2_with (go_at_call 24; refine (fix.specIn _ _ _ _).mono ?_; rintro e w' ⟨rfl, rfl⟩)
    refine (rd.specReadingOk _ _ _ _).mono ?_
    rintro e w2 ⟨rfl, hg⟩
    replace a2 := a2.grown hg (by simp)
    replace g0 := gr_trans g0 hg
    clear c0 c1 c2 f0 f1 f2 d0 d1 d2
    obtain ⟨c0, c1, c2, f0, f1, f2⟩ := three a2
    go_wp2_with fail
    obtain ⟨k0, k1, k2, _, _, _⟩ := three (set3 a2 (.int .i64 0) (.bool false) (.bool false))
    exact bodyPost_ret (v := .agg #[.int .i64 0, .bool false, .bool false]) (by simp [results, Tryz.results160, go_sem, k0, k1, k2]) rfl ⟨rfl, gr_new (gr_new (gr_new g0 (by omega) _ _) (by omega) _ _) (by omega) _ _⟩


theorem rg_b {P : Program} {f : FuncId} {args : Array Value} {w : World} {d : Nat} {os : Array Obj} {x : bnc.B}
    (h : Calls P f args (Go.Sort.grow (redrawn w d) os) (RetB x (Go.Sort.grow (redrawn w d) os))) : Calls P f args (Go.Sort.grow (redrawn w d) os) fun e w'' => e = .returned (.agg #[.int .i64 x.1, .bool x.2]) ∧ ∃ p : Regrown, w'' = Go.Sort.grow (redrawn w p.d) p.os := rg_ret h
theorem specFresh_at {v a : Int} {o b : Bool} (h : fresh (v, a, o) 3 = b) (W : World) : Calls Tryz.prog 103 #[.agg #[.int .i64 v, .int .i64 a, .bool o], .int .i64 3] W (Ret (.bool b) W) := h ▸ rd.specIsFresh v a 3 o W
theorem specFeel_at {N : Int} {on s : Bool} {M : Int} {O : Bool} (h : feel 5 5 (N, on) s = (M, O)) (h0 : 0 ≤ N) (h1 : N ≤ 100) (W : World) : Calls Tryz.prog 173 #[.agg #[.int .i64 N, .bool on], .bool s, .int .i64 5, .int .i64 5] W (RetB (M, O) W) := h ▸ bnc.specFeel N on s 5 5 W h0 h1
theorem specFeel_dbl {N v wn : Int} {on : Bool} {M : Int} {O : Bool} (hv0 : -1000000 ≤ v) (hv1 : v ≤ 1000000) (h : feel 5 5 (N, on) (decide (2 * v < wn)) = (M, O)) (h0 : 0 ≤ N) (h1 : N ≤ 100) (W : World) : Calls Tryz.prog 173 #[.agg #[.int .i64 N, .bool on], .bool (decide (IntKind.i64.wrap (2 * v) < wn)), .int .i64 5, .int .i64 5] W (RetB (M, O) W) := by
  have e : IntKind.i64.wrap (2 * v) = 2 * v := IntWalk.i64_in _ (by omega)
  rw [e]
  exact specFeel_at h h0 h1 W
theorem feel_ex (N : Int) (on out s : Bool) : ∃ M O, feel 5 5 (N, on) s = (M, O) ∧ outed (felt (N, on, out) s) = (M, O, out || O) := ⟨_, _, rfl, rfl⟩
theorem low_old {v a wn : Int} {o : Bool} (h : fresh (v, a, o) 3 = false) : lowB wn (v, a, o) = true := by unfold lowB; rw [h]; rfl
theorem low_new {v a wn : Int} {o : Bool} (h : fresh (v, a, o) 3 = true) : lowB wn (v, a, o) = decide (2 * v < wn) := by unfold lowB; rw [h]; rfl

set_option maxHeartbeats 2000000 in
theorem specWatched_ok (N wn v a : Int) (on out o : Bool) (w : World) (hr : right (N, on, out) wn (v, a, o) = true) : Calls Tryz.prog 160 #[.agg #[.int .i64 N, .bool on, .bool out], .int .i64 wn, .agg #[.int .i64 v, .int .i64 a, .bool o]] w (RetF (watched (N, on, out) wn (v, a, o)) w) := by
  obtain ⟨a0, a1, a2, g0⟩ := w3_has w N on out v a o
  obtain ⟨⟨h0, h1⟩, ⟨hw0, hw1⟩, i2⟩ := right_iff.1 hr
  obtain ⟨hv0, hv1⟩ := (okR_iff.1 i2).1
  have i0 : inb N 0 100 = true := inb_iff.2 ⟨h0, h1⟩
  have i1 : inb wn 0 1000 = true := inb_iff.2 ⟨hw0, hw1⟩
  by_cases hw : 100 ≤ wn
  · rw [watched_hi hr hw]
    clear hr
    go_enter Tryz.func160, Tryz.ntmps160
    go_wp2_with fail
    refine (specFanOk _ _ _ _).mono ?_
    rintro e w1 ⟨rfl, hg⟩
    replace a0 := a0.grown hg (by simp)
    replace a1 := a1.grown hg (by simp)
    replace a2 := a2.grown hg (by simp)
    replace g0 := gr_trans g0 hg
    clear hg
    obtain ⟨d0, d1, d2, _, _, _⟩ := three a1
    go_wp2_with (go_at_call 24; refine (fix.specIn _ _ _ _).mono ?_; rintro e w' ⟨rfl, rfl⟩)
    refine (rd.specReadingOk _ _ _ _).mono ?_
    rintro e w2 ⟨rfl, hg⟩
    replace a0 := a0.grown hg (by simp)
    replace a1 := a1.grown hg (by simp)
    replace a2 := a2.grown hg (by simp)
    replace g0 := gr_trans g0 hg
    clear hg d0 d1 d2 i0 i1
    obtain ⟨c0, c1, c2, f0, f1, f2⟩ := three a0
    go_wp2_with fail
    clear i2 c0 c1 c2 f0 f1 f2
    obtain ⟨c0, c1, c2⟩ := three_rg a0
    obtain ⟨d0, d1, d2⟩ := three_rg a1
    by_cases hF : fresh (v, a, o) 3 = true
    · have cF := specFresh_at hF
      obtain ⟨M, O, hff, hE0⟩ := feel_ex N on out (decide (2 * v < wn))
      have hE := Lib.hid (show outed (felt (N, on, out) (lowB wn (v, a, o))) = (M, O, out || O) by rw [low_new hF]; exact hE0)
      have cL := specFeel_dbl hv0 hv1 hff h0 h1
      clear hE0 hff hF
      refine region_below_tail 14 (by kernel_rfl) (by kernel_rfl) ?_
      simp only [List.take_succ_cons, List.take_zero, List.drop_succ_cons, List.drop_zero]
      repeat (quiet_step (first | (go_at_call 103; exact rg_ret (cF _)) | (go_at_call 173; exact rg_b (cL _))))
      refine wpQuiet_nil ?_
      intro _ hw'
      obtain ⟨⟨dq, osq⟩, hw''⟩ := hw'
      subst hw''
      have gq := gr_rg w2 dq osq
      replace a0 := a0.grown gq (by simp)
      replace a2 := a2.grown gq (by simp)
      replace g0 := gr_trans g0 gq
      clear gq c0 c1 c2 d0 d1 d2 a1 cF cL
      generalize Go.Sort.grow (redrawn w2 dq) osq = w3 at *
      obtain ⟨c0, c1, c2, f0, f1, f2⟩ := three a0
      obtain ⟨d0, d1, d2, p0, p1, p2⟩ := three a2
      cases out
      · go_wp2_with fail
        have b1 := set3 (((a2.set_other (g' := w.heap.size) (by omega) 0 (.int .i64 M)).set_other (g' := w.heap.size) (by omega) 1 (.bool O)).set_other (g' := w.heap.size) (by omega) 2 (.bool O)) (.int .i64 M) (.bool O) (.bool O)
        obtain ⟨k0, k1, k2, _, _, _⟩ := three b1
        exact bodyPost_ret (v := .agg #[.int .i64 M, .bool O, .bool O]) (by simp [results, Tryz.results160, go_sem, k0, k1, k2]) rfl ⟨by rw [hE.out]; rfl, gr_new (gr_new (gr_new (gr_new (gr_new (gr_new g0 (by omega) _ _) (by omega) _ _) (by omega) _ _) (by omega) _ _) (by omega) _ _) (by omega) _ _⟩
      · go_wp2_with fail
        have b1 := set3 (((a2.set_other (g' := w.heap.size) (by omega) 0 (.int .i64 M)).set_other (g' := w.heap.size) (by omega) 1 (.bool O)).set_other (g' := w.heap.size) (by omega) 2 (.bool true)) (.int .i64 M) (.bool O) (.bool true)
        obtain ⟨k0, k1, k2, _, _, _⟩ := three b1
        exact bodyPost_ret (v := .agg #[.int .i64 M, .bool O, .bool true]) (by simp [results, Tryz.results160, go_sem, k0, k1, k2]) rfl ⟨by rw [hE.out]; rfl, gr_new (gr_new (gr_new (gr_new (gr_new (gr_new g0 (by omega) _ _) (by omega) _ _) (by omega) _ _) (by omega) _ _) (by omega) _ _) (by omega) _ _⟩
    · have hF' : fresh (v, a, o) 3 = false := by simpa using hF
      have cF := specFresh_at hF'
      obtain ⟨M, O, hff, hE0⟩ := feel_ex N on out true
      have hE := Lib.hid (show outed (felt (N, on, out) (lowB wn (v, a, o))) = (M, O, out || O) by rw [low_old hF']; exact hE0)
      clear hF hF'
      have cL := specFeel_at hff h0 h1
      clear hE0 hff
      refine region_below_tail 14 (by kernel_rfl) (by kernel_rfl) ?_
      simp only [List.take_succ_cons, List.take_zero, List.drop_succ_cons, List.drop_zero]
      repeat (quiet_step (first | (go_at_call 103; exact rg_ret (cF _)) | (go_at_call 173; exact rg_b (cL _))))
      refine wpQuiet_nil ?_
      intro _ hw'
      obtain ⟨⟨dq, osq⟩, hw''⟩ := hw'
      subst hw''
      have gq := gr_rg w2 dq osq
      replace a0 := a0.grown gq (by simp)
      replace a2 := a2.grown gq (by simp)
      replace g0 := gr_trans g0 gq
      clear gq c0 c1 c2 d0 d1 d2 a1 cF cL
      generalize Go.Sort.grow (redrawn w2 dq) osq = w3 at *
      obtain ⟨c0, c1, c2, f0, f1, f2⟩ := three a0
      obtain ⟨d0, d1, d2, p0, p1, p2⟩ := three a2
      cases out
      · go_wp2_with fail
        have b1 := set3 (((a2.set_other (g' := w.heap.size) (by omega) 0 (.int .i64 M)).set_other (g' := w.heap.size) (by omega) 1 (.bool O)).set_other (g' := w.heap.size) (by omega) 2 (.bool O)) (.int .i64 M) (.bool O) (.bool O)
        obtain ⟨k0, k1, k2, _, _, _⟩ := three b1
        exact bodyPost_ret (v := .agg #[.int .i64 M, .bool O, .bool O]) (by simp [results, Tryz.results160, go_sem, k0, k1, k2]) rfl ⟨by rw [hE.out]; rfl, gr_new (gr_new (gr_new (gr_new (gr_new (gr_new g0 (by omega) _ _) (by omega) _ _) (by omega) _ _) (by omega) _ _) (by omega) _ _) (by omega) _ _⟩
      · go_wp2_with fail
        have b1 := set3 (((a2.set_other (g' := w.heap.size) (by omega) 0 (.int .i64 M)).set_other (g' := w.heap.size) (by omega) 1 (.bool O)).set_other (g' := w.heap.size) (by omega) 2 (.bool true)) (.int .i64 M) (.bool O) (.bool true)
        obtain ⟨k0, k1, k2, _, _, _⟩ := three b1
        exact bodyPost_ret (v := .agg #[.int .i64 M, .bool O, .bool true]) (by simp [results, Tryz.results160, go_sem, k0, k1, k2]) rfl ⟨by rw [hE.out]; rfl, gr_new (gr_new (gr_new (gr_new (gr_new (gr_new g0 (by omega) _ _) (by omega) _ _) (by omega) _ _) (by omega) _ _) (by omega) _ _) (by omega) _ _⟩
  · rw [watched_low hr (by omega)]
    clear hr
    go_enter Tryz.func160, Tryz.ntmps160
    go_wp2_with fail
    refine (specFanOk _ _ _ _).mono ?_
    rintro e w1 ⟨rfl, hg⟩
    replace a0 := a0.grown hg (by simp)
    replace a1 := a1.grown hg (by simp)
    replace a2 := a2.grown hg (by simp)
    replace g0 := gr_trans g0 hg
    clear hg
    obtain ⟨d0, d1, d2, _, _, _⟩ := three a1
    go_wp2_with (go_at_call 24; refine (fix.specIn _ _ _ _).mono ?_; rintro e w' ⟨rfl, rfl⟩)
    refine (rd.specReadingOk _ _ _ _).mono ?_
    rintro e w2 ⟨rfl, hg⟩
    replace a0 := a0.grown hg (by simp)
    replace a1 := a1.grown hg (by simp)
    replace a2 := a2.grown hg (by simp)
    replace g0 := gr_trans g0 hg
    clear hg d0 d1 d2 i0 i1
    obtain ⟨c0, c1, c2, f0, f1, f2⟩ := three a0
    obtain ⟨d0, d1, d2, p0, p1, p2⟩ := three a2
    cases out
    · go_wp2_with fail
      have b1 := set3 (a2.set_other (g' := w.heap.size) (by omega) 2 (.bool on)) (.int .i64 N) (.bool on) (.bool on)
      obtain ⟨k0, k1, k2, _, _, _⟩ := three b1
      exact bodyPost_ret (v := .agg #[.int .i64 N, .bool on, .bool on]) (by simp [results, Tryz.results160, go_sem, k0, k1, k2]) rfl ⟨by simp [outed], gr_new (gr_new (gr_new (gr_new g0 (by omega) _ _) (by omega) _ _) (by omega) _ _) (by omega) _ _⟩
    · go_wp2_with fail
      have b1 := set3 (a2.set_other (g' := w.heap.size) (by omega) 2 (.bool true)) (.int .i64 N) (.bool on) (.bool true)
      obtain ⟨k0, k1, k2, _, _, _⟩ := three b1
      exact bodyPost_ret (v := .agg #[.int .i64 N, .bool on, .bool true]) (by simp [results, Tryz.results160, go_sem, k0, k1, k2]) rfl ⟨by simp [outed], gr_new (gr_new (gr_new (gr_new g0 (by omega) _ _) (by omega) _ _) (by omega) _ _) (by omega) _ _⟩

theorem specWatched (N wn v a : Int) (on out o : Bool) (w : World) : Calls Tryz.prog 160 #[.agg #[.int .i64 N, .bool on, .bool out], .int .i64 wn, .agg #[.int .i64 v, .int .i64 a, .bool o]] w (RetF (watched (N, on, out) wn (v, a, o)) w) := by
  by_cases h : right (N, on, out) wn (v, a, o) = true
  · exact specWatched_ok N wn v a on out o w h
  · have h' : right (N, on, out) wn (v, a, o) = false := by simpa using h
    rw [watched_no h']
    exact specWatched_no N wn v a on out o w h'
end Go.Proofs.YtdikhdfpcipdbaaGreatDoor.fan

/- A list of a hundred and nine is its members. -/
namespace Go.Proofs.YtdikhdfpcipdbaaGreatDoor.br
open Go
open Go.Proofs.YtdikhdfpcipdbaaGreatDoor.se (cons_of)
theorem litT109 (tl : List Value) (h : tl.length = 109) : ∃ x0 x1 x2 x3 x4 x5 x6 x7 x8 x9 x10 x11 x12 x13 x14 x15 x16 x17 x18 x19 x20 x21 x22 x23 x24 x25 x26 x27 x28 x29 x30 x31 x32 x33 x34 x35 x36 x37 x38 x39 x40 x41 x42 x43 x44 x45 x46 x47 x48 x49 x50 x51 x52 x53 x54 x55 x56 x57 x58 x59 x60 x61 x62 x63 x64 x65 x66 x67 x68 x69 x70 x71 x72 x73 x74 x75 x76 x77 x78 x79 x80 x81 x82 x83 x84 x85 x86 x87 x88 x89 x90 x91 x92 x93 x94 x95 x96 x97 x98 x99 x100 x101 x102 x103 x104 x105 x106 x107 x108 : Value, tl = [x0, x1, x2, x3, x4, x5, x6, x7, x8, x9, x10, x11, x12, x13, x14, x15, x16, x17, x18, x19, x20, x21, x22, x23, x24, x25, x26, x27, x28, x29, x30, x31, x32, x33, x34, x35, x36, x37, x38, x39, x40, x41, x42, x43, x44, x45, x46, x47, x48, x49, x50, x51, x52, x53, x54, x55, x56, x57, x58, x59, x60, x61, x62, x63, x64, x65, x66, x67, x68, x69, x70, x71, x72, x73, x74, x75, x76, x77, x78, x79, x80, x81, x82, x83, x84, x85, x86, x87, x88, x89, x90, x91, x92, x93, x94, x95, x96, x97, x98, x99, x100, x101, x102, x103, x104, x105, x106, x107, x108] := by
  obtain ⟨x0, t0, e0, h0⟩ := cons_of h
  obtain ⟨x1, t1, e1, h1⟩ := cons_of h0
  obtain ⟨x2, t2, e2, h2⟩ := cons_of h1
  obtain ⟨x3, t3, e3, h3⟩ := cons_of h2
  obtain ⟨x4, t4, e4, h4⟩ := cons_of h3
  obtain ⟨x5, t5, e5, h5⟩ := cons_of h4
  obtain ⟨x6, t6, e6, h6⟩ := cons_of h5
  obtain ⟨x7, t7, e7, h7⟩ := cons_of h6
  obtain ⟨x8, t8, e8, h8⟩ := cons_of h7
  obtain ⟨x9, t9, e9, h9⟩ := cons_of h8
  obtain ⟨x10, t10, e10, h10⟩ := cons_of h9
  obtain ⟨x11, t11, e11, h11⟩ := cons_of h10
  obtain ⟨x12, t12, e12, h12⟩ := cons_of h11
  obtain ⟨x13, t13, e13, h13⟩ := cons_of h12
  obtain ⟨x14, t14, e14, h14⟩ := cons_of h13
  obtain ⟨x15, t15, e15, h15⟩ := cons_of h14
  obtain ⟨x16, t16, e16, h16⟩ := cons_of h15
  obtain ⟨x17, t17, e17, h17⟩ := cons_of h16
  obtain ⟨x18, t18, e18, h18⟩ := cons_of h17
  obtain ⟨x19, t19, e19, h19⟩ := cons_of h18
  obtain ⟨x20, t20, e20, h20⟩ := cons_of h19
  obtain ⟨x21, t21, e21, h21⟩ := cons_of h20
  obtain ⟨x22, t22, e22, h22⟩ := cons_of h21
  obtain ⟨x23, t23, e23, h23⟩ := cons_of h22
  obtain ⟨x24, t24, e24, h24⟩ := cons_of h23
  obtain ⟨x25, t25, e25, h25⟩ := cons_of h24
  obtain ⟨x26, t26, e26, h26⟩ := cons_of h25
  obtain ⟨x27, t27, e27, h27⟩ := cons_of h26
  obtain ⟨x28, t28, e28, h28⟩ := cons_of h27
  obtain ⟨x29, t29, e29, h29⟩ := cons_of h28
  obtain ⟨x30, t30, e30, h30⟩ := cons_of h29
  obtain ⟨x31, t31, e31, h31⟩ := cons_of h30
  obtain ⟨x32, t32, e32, h32⟩ := cons_of h31
  obtain ⟨x33, t33, e33, h33⟩ := cons_of h32
  obtain ⟨x34, t34, e34, h34⟩ := cons_of h33
  obtain ⟨x35, t35, e35, h35⟩ := cons_of h34
  obtain ⟨x36, t36, e36, h36⟩ := cons_of h35
  obtain ⟨x37, t37, e37, h37⟩ := cons_of h36
  obtain ⟨x38, t38, e38, h38⟩ := cons_of h37
  obtain ⟨x39, t39, e39, h39⟩ := cons_of h38
  obtain ⟨x40, t40, e40, h40⟩ := cons_of h39
  obtain ⟨x41, t41, e41, h41⟩ := cons_of h40
  obtain ⟨x42, t42, e42, h42⟩ := cons_of h41
  obtain ⟨x43, t43, e43, h43⟩ := cons_of h42
  obtain ⟨x44, t44, e44, h44⟩ := cons_of h43
  obtain ⟨x45, t45, e45, h45⟩ := cons_of h44
  obtain ⟨x46, t46, e46, h46⟩ := cons_of h45
  obtain ⟨x47, t47, e47, h47⟩ := cons_of h46
  obtain ⟨x48, t48, e48, h48⟩ := cons_of h47
  obtain ⟨x49, t49, e49, h49⟩ := cons_of h48
  obtain ⟨x50, t50, e50, h50⟩ := cons_of h49
  obtain ⟨x51, t51, e51, h51⟩ := cons_of h50
  obtain ⟨x52, t52, e52, h52⟩ := cons_of h51
  obtain ⟨x53, t53, e53, h53⟩ := cons_of h52
  obtain ⟨x54, t54, e54, h54⟩ := cons_of h53
  obtain ⟨x55, t55, e55, h55⟩ := cons_of h54
  obtain ⟨x56, t56, e56, h56⟩ := cons_of h55
  obtain ⟨x57, t57, e57, h57⟩ := cons_of h56
  obtain ⟨x58, t58, e58, h58⟩ := cons_of h57
  obtain ⟨x59, t59, e59, h59⟩ := cons_of h58
  obtain ⟨x60, t60, e60, h60⟩ := cons_of h59
  obtain ⟨x61, t61, e61, h61⟩ := cons_of h60
  obtain ⟨x62, t62, e62, h62⟩ := cons_of h61
  obtain ⟨x63, t63, e63, h63⟩ := cons_of h62
  obtain ⟨x64, t64, e64, h64⟩ := cons_of h63
  obtain ⟨x65, t65, e65, h65⟩ := cons_of h64
  obtain ⟨x66, t66, e66, h66⟩ := cons_of h65
  obtain ⟨x67, t67, e67, h67⟩ := cons_of h66
  obtain ⟨x68, t68, e68, h68⟩ := cons_of h67
  obtain ⟨x69, t69, e69, h69⟩ := cons_of h68
  obtain ⟨x70, t70, e70, h70⟩ := cons_of h69
  obtain ⟨x71, t71, e71, h71⟩ := cons_of h70
  obtain ⟨x72, t72, e72, h72⟩ := cons_of h71
  obtain ⟨x73, t73, e73, h73⟩ := cons_of h72
  obtain ⟨x74, t74, e74, h74⟩ := cons_of h73
  obtain ⟨x75, t75, e75, h75⟩ := cons_of h74
  obtain ⟨x76, t76, e76, h76⟩ := cons_of h75
  obtain ⟨x77, t77, e77, h77⟩ := cons_of h76
  obtain ⟨x78, t78, e78, h78⟩ := cons_of h77
  obtain ⟨x79, t79, e79, h79⟩ := cons_of h78
  obtain ⟨x80, t80, e80, h80⟩ := cons_of h79
  obtain ⟨x81, t81, e81, h81⟩ := cons_of h80
  obtain ⟨x82, t82, e82, h82⟩ := cons_of h81
  obtain ⟨x83, t83, e83, h83⟩ := cons_of h82
  obtain ⟨x84, t84, e84, h84⟩ := cons_of h83
  obtain ⟨x85, t85, e85, h85⟩ := cons_of h84
  obtain ⟨x86, t86, e86, h86⟩ := cons_of h85
  obtain ⟨x87, t87, e87, h87⟩ := cons_of h86
  obtain ⟨x88, t88, e88, h88⟩ := cons_of h87
  obtain ⟨x89, t89, e89, h89⟩ := cons_of h88
  obtain ⟨x90, t90, e90, h90⟩ := cons_of h89
  obtain ⟨x91, t91, e91, h91⟩ := cons_of h90
  obtain ⟨x92, t92, e92, h92⟩ := cons_of h91
  obtain ⟨x93, t93, e93, h93⟩ := cons_of h92
  obtain ⟨x94, t94, e94, h94⟩ := cons_of h93
  obtain ⟨x95, t95, e95, h95⟩ := cons_of h94
  obtain ⟨x96, t96, e96, h96⟩ := cons_of h95
  obtain ⟨x97, t97, e97, h97⟩ := cons_of h96
  obtain ⟨x98, t98, e98, h98⟩ := cons_of h97
  obtain ⟨x99, t99, e99, h99⟩ := cons_of h98
  obtain ⟨x100, t100, e100, h100⟩ := cons_of h99
  obtain ⟨x101, t101, e101, h101⟩ := cons_of h100
  obtain ⟨x102, t102, e102, h102⟩ := cons_of h101
  obtain ⟨x103, t103, e103, h103⟩ := cons_of h102
  obtain ⟨x104, t104, e104, h104⟩ := cons_of h103
  obtain ⟨x105, t105, e105, h105⟩ := cons_of h104
  obtain ⟨x106, t106, e106, h106⟩ := cons_of h105
  obtain ⟨x107, t107, e107, h107⟩ := cons_of h106
  obtain ⟨x108, t108, e108, h108⟩ := cons_of h107
  have e109 := List.eq_nil_of_length_eq_zero h108
  exact ⟨x0, x1, x2, x3, x4, x5, x6, x7, x8, x9, x10, x11, x12, x13, x14, x15, x16, x17, x18, x19, x20, x21, x22, x23, x24, x25, x26, x27, x28, x29, x30, x31, x32, x33, x34, x35, x36, x37, x38, x39, x40, x41, x42, x43, x44, x45, x46, x47, x48, x49, x50, x51, x52, x53, x54, x55, x56, x57, x58, x59, x60, x61, x62, x63, x64, x65, x66, x67, x68, x69, x70, x71, x72, x73, x74, x75, x76, x77, x78, x79, x80, x81, x82, x83, x84, x85, x86, x87, x88, x89, x90, x91, x92, x93, x94, x95, x96, x97, x98, x99, x100, x101, x102, x103, x104, x105, x106, x107, x108, by rw [e0, e1, e2, e3, e4, e5, e6, e7, e8, e9, e10, e11, e12, e13, e14, e15, e16, e17, e18, e19, e20, e21, e22, e23, e24, e25, e26, e27, e28, e29, e30, e31, e32, e33, e34, e35, e36, e37, e38, e39, e40, e41, e42, e43, e44, e45, e46, e47, e48, e49, e50, e51, e52, e53, e54, e55, e56, e57, e58, e59, e60, e61, e62, e63, e64, e65, e66, e67, e68, e69, e70, e71, e72, e73, e74, e75, e76, e77, e78, e79, e80, e81, e82, e83, e84, e85, e86, e87, e88, e89, e90, e91, e92, e93, e94, e95, e96, e97, e98, e99, e100, e101, e102, e103, e104, e105, e106, e107, e108, e109]⟩
theorem litE109 {C : Prop} (tl : List Value) (h : tl.length = 109) (H : ∀ x0 x1 x2 x3 x4 x5 x6 x7 x8 x9 x10 x11 x12 x13 x14 x15 x16 x17 x18 x19 x20 x21 x22 x23 x24 x25 x26 x27 x28 x29 x30 x31 x32 x33 x34 x35 x36 x37 x38 x39 x40 x41 x42 x43 x44 x45 x46 x47 x48 x49 x50 x51 x52 x53 x54 x55 x56 x57 x58 x59 x60 x61 x62 x63 x64 x65 x66 x67 x68 x69 x70 x71 x72 x73 x74 x75 x76 x77 x78 x79 x80 x81 x82 x83 x84 x85 x86 x87 x88 x89 x90 x91 x92 x93 x94 x95 x96 x97 x98 x99 x100 x101 x102 x103 x104 x105 x106 x107 x108 : Value, tl = [x0, x1, x2, x3, x4, x5, x6, x7, x8, x9, x10, x11, x12, x13, x14, x15, x16, x17, x18, x19, x20, x21, x22, x23, x24, x25, x26, x27, x28, x29, x30, x31, x32, x33, x34, x35, x36, x37, x38, x39, x40, x41, x42, x43, x44, x45, x46, x47, x48, x49, x50, x51, x52, x53, x54, x55, x56, x57, x58, x59, x60, x61, x62, x63, x64, x65, x66, x67, x68, x69, x70, x71, x72, x73, x74, x75, x76, x77, x78, x79, x80, x81, x82, x83, x84, x85, x86, x87, x88, x89, x90, x91, x92, x93, x94, x95, x96, x97, x98, x99, x100, x101, x102, x103, x104, x105, x106, x107, x108] → C) : C := by
  have e := litT109 tl h
  revert H
  obtain ⟨x0, x1, x2, x3, x4, x5, x6, x7, x8, x9, x10, x11, x12, x13, x14, x15, x16, x17, x18, x19, x20, x21, x22, x23, x24, x25, x26, x27, x28, x29, x30, x31, x32, x33, x34, x35, x36, x37, x38, x39, x40, x41, x42, x43, x44, x45, x46, x47, x48, x49, x50, x51, x52, x53, x54, x55, x56, x57, x58, x59, x60, x61, x62, x63, x64, x65, x66, x67, x68, x69, x70, x71, x72, x73, x74, x75, x76, x77, x78, x79, x80, x81, x82, x83, x84, x85, x86, x87, x88, x89, x90, x91, x92, x93, x94, x95, x96, x97, x98, x99, x100, x101, x102, x103, x104, x105, x106, x107, x108, et⟩ := e
  intro H
  exact H x0 x1 x2 x3 x4 x5 x6 x7 x8 x9 x10 x11 x12 x13 x14 x15 x16 x17 x18 x19 x20 x21 x22 x23 x24 x25 x26 x27 x28 x29 x30 x31 x32 x33 x34 x35 x36 x37 x38 x39 x40 x41 x42 x43 x44 x45 x46 x47 x48 x49 x50 x51 x52 x53 x54 x55 x56 x57 x58 x59 x60 x61 x62 x63 x64 x65 x66 x67 x68 x69 x70 x71 x72 x73 x74 x75 x76 x77 x78 x79 x80 x81 x82 x83 x84 x85 x86 x87 x88 x89 x90 x91 x92 x93 x94 x95 x96 x97 x98 x99 x100 x101 x102 x103 x104 x105 x106 x107 x108 et
end Go.Proofs.YtdikhdfpcipdbaaGreatDoor.br

/- A list of one and thirty is its members. -/
namespace Go.Proofs.YtdikhdfpcipdbaaGreatDoor.wd
open Go
open Go.Proofs.YtdikhdfpcipdbaaGreatDoor.se (cons_of)
theorem litT31 (tl : List Value) (h : tl.length = 31) : ∃ x0 x1 x2 x3 x4 x5 x6 x7 x8 x9 x10 x11 x12 x13 x14 x15 x16 x17 x18 x19 x20 x21 x22 x23 x24 x25 x26 x27 x28 x29 x30 : Value, tl = [x0, x1, x2, x3, x4, x5, x6, x7, x8, x9, x10, x11, x12, x13, x14, x15, x16, x17, x18, x19, x20, x21, x22, x23, x24, x25, x26, x27, x28, x29, x30] := by
  obtain ⟨x0, t0, e0, h0⟩ := cons_of h
  obtain ⟨x1, t1, e1, h1⟩ := cons_of h0
  obtain ⟨x2, t2, e2, h2⟩ := cons_of h1
  obtain ⟨x3, t3, e3, h3⟩ := cons_of h2
  obtain ⟨x4, t4, e4, h4⟩ := cons_of h3
  obtain ⟨x5, t5, e5, h5⟩ := cons_of h4
  obtain ⟨x6, t6, e6, h6⟩ := cons_of h5
  obtain ⟨x7, t7, e7, h7⟩ := cons_of h6
  obtain ⟨x8, t8, e8, h8⟩ := cons_of h7
  obtain ⟨x9, t9, e9, h9⟩ := cons_of h8
  obtain ⟨x10, t10, e10, h10⟩ := cons_of h9
  obtain ⟨x11, t11, e11, h11⟩ := cons_of h10
  obtain ⟨x12, t12, e12, h12⟩ := cons_of h11
  obtain ⟨x13, t13, e13, h13⟩ := cons_of h12
  obtain ⟨x14, t14, e14, h14⟩ := cons_of h13
  obtain ⟨x15, t15, e15, h15⟩ := cons_of h14
  obtain ⟨x16, t16, e16, h16⟩ := cons_of h15
  obtain ⟨x17, t17, e17, h17⟩ := cons_of h16
  obtain ⟨x18, t18, e18, h18⟩ := cons_of h17
  obtain ⟨x19, t19, e19, h19⟩ := cons_of h18
  obtain ⟨x20, t20, e20, h20⟩ := cons_of h19
  obtain ⟨x21, t21, e21, h21⟩ := cons_of h20
  obtain ⟨x22, t22, e22, h22⟩ := cons_of h21
  obtain ⟨x23, t23, e23, h23⟩ := cons_of h22
  obtain ⟨x24, t24, e24, h24⟩ := cons_of h23
  obtain ⟨x25, t25, e25, h25⟩ := cons_of h24
  obtain ⟨x26, t26, e26, h26⟩ := cons_of h25
  obtain ⟨x27, t27, e27, h27⟩ := cons_of h26
  obtain ⟨x28, t28, e28, h28⟩ := cons_of h27
  obtain ⟨x29, t29, e29, h29⟩ := cons_of h28
  obtain ⟨x30, t30, e30, h30⟩ := cons_of h29
  have e31 := List.eq_nil_of_length_eq_zero h30
  exact ⟨x0, x1, x2, x3, x4, x5, x6, x7, x8, x9, x10, x11, x12, x13, x14, x15, x16, x17, x18, x19, x20, x21, x22, x23, x24, x25, x26, x27, x28, x29, x30, by rw [e0, e1, e2, e3, e4, e5, e6, e7, e8, e9, e10, e11, e12, e13, e14, e15, e16, e17, e18, e19, e20, e21, e22, e23, e24, e25, e26, e27, e28, e29, e30, e31]⟩
theorem litE31 {C : Prop} (tl : List Value) (h : tl.length = 31) (H : ∀ x0 x1 x2 x3 x4 x5 x6 x7 x8 x9 x10 x11 x12 x13 x14 x15 x16 x17 x18 x19 x20 x21 x22 x23 x24 x25 x26 x27 x28 x29 x30 : Value, tl = [x0, x1, x2, x3, x4, x5, x6, x7, x8, x9, x10, x11, x12, x13, x14, x15, x16, x17, x18, x19, x20, x21, x22, x23, x24, x25, x26, x27, x28, x29, x30] → C) : C := by
  have e := litT31 tl h
  revert H
  obtain ⟨x0, x1, x2, x3, x4, x5, x6, x7, x8, x9, x10, x11, x12, x13, x14, x15, x16, x17, x18, x19, x20, x21, x22, x23, x24, x25, x26, x27, x28, x29, x30, et⟩ := e
  intro H
  exact H x0 x1 x2 x3 x4 x5 x6 x7 x8 x9 x10 x11 x12 x13 x14 x15 x16 x17 x18 x19 x20 x21 x22 x23 x24 x25 x26 x27 x28 x29 x30 et
theorem abs4 {P : Program} {c : Code} {Q : Exit → Act → World → Prop} {a : Act} {w : World} {n : Nat} (i0 i1 i2 i3 : Nat) {y0 y1 y2 y3 : Value}
    (h : ∀ a0 : Act, a0.tmps.size = n → a0.defers = [] → a0.tmps[i0]? = some y0 → a0.tmps[i1]? = some y1 → a0.tmps[i2]? = some y2 → a0.tmps[i3]? = some y3 → c.wp P Q a0 w)
    (h1 : a.tmps.size = n) (h2 : a.defers = []) (k0 : a.tmps[i0]? = some y0) (k1 : a.tmps[i1]? = some y1) (k2 : a.tmps[i2]? = some y2) (k3 : a.tmps[i3]? = some y3) : c.wp P Q a w := h a h1 h2 k0 k1 k2 k3
end Go.Proofs.YtdikhdfpcipdbaaGreatDoor.wd

