/- Chapter 9: Watched of the program and of the model. -/
import Derived.Test.YtdpoecebjjcicaaFa
import Derived.Test.YtdpoecebjjcicaaQuietTail
namespace Go.Proofs.Ytdpoecebjjcicaa.fan
open Go.ChangeShapes Go.WideShapes Go.ChangeAt Go.RowKit
open Go.Proofs.Ytdpoecebjjcicaa.nums Go.Proofs.Ytdpoecebjjcicaa.mem
open Go.Proofs.Ytdpoecebjjcicaa.rd (R okR fresh three set3 fresh1 okR_iff)
open Go.Proofs.Ytdpoecebjjcicaa.bnc (feel inb_iff inb_no)
open Go.Proofs.Ytdpoecebjjcicaa.tab (Ret quiet_w wpList_make_has)
open Go.Proofs.Ytdpoecebjjcicaa.qt
set_option linter.unusedVariables false

/-- The ways a fan, a wish and a reading can be not right. -/
theorem right_no {N wn : Int} {on out : Bool} {r : R} (h : right (N, on, out) wn r = false) : inb N 0 100 = false ∨ (inb N 0 100 = true ∧ inb wn 0 1000 = false) ∨ (inb N 0 100 = true ∧ inb wn 0 1000 = true ∧ okR r = false) := by
  unfold right okF at h
  cases h1 : inb N 0 100 <;> cases h2 : inb wn 0 1000 <;> cases h3 : okR r <;> simp_all

/-- Three cells, in every world of the class. -/
theorem three_rg {w : World} {g : Nat} {t : TypeId} {a b c : Value} (h : Has w g t #[a, b, c]) : (∀ d os, (Go.Sort.grow (redrawn w d) os).cell? ⟨g, 0, none⟩ = some a) ∧ (∀ d os, (Go.Sort.grow (redrawn w d) os).cell? ⟨g, 1, none⟩ = some b) ∧ (∀ d os, (Go.Sort.grow (redrawn w d) os).cell? ⟨g, 2, none⟩ = some c) :=
  ⟨cell_regrown (three h).1, cell_regrown (three h).2.1, cell_regrown (three h).2.2.1⟩
/-- A callee that returns a fan, met in a world of the class. -/
theorem rg_fan {P : Program} {f : FuncId} {args : Array Value} {w : World} {d : Nat} {os : Array Obj} {x : F}
    (h : Calls P f args (Go.Sort.grow (redrawn w d) os) (RetF x (Go.Sort.grow (redrawn w d) os))) : Calls P f args (Go.Sort.grow (redrawn w d) os) fun e w'' => e = .returned (.agg #[.int .i64 x.1, .bool x.2.1, .bool x.2.2]) ∧ ∃ p : Regrown, w'' = Go.Sort.grow (redrawn w p.d) p.os := rg_ret h

/-- The three boxes that Watched lays at its start. -/
abbrev w3 (w : World) (N : Int) (on out : Bool) (v a : Int) (o : Bool) : World := ((w.alloc (Obj.cells #[.int .i64 N, .bool on, .bool out] 27)).alloc (Obj.cells #[.int .i64 v, .int .i64 a, .bool o] 29)).alloc (Obj.cells #[.int .i64 0, .bool false, .bool false] 27)
theorem w3_has (w : World) (N : Int) (on out : Bool) (v a : Int) (o : Bool) : Has (w3 w N on out v a o) w.heap.size 27 #[.int .i64 N, .bool on, .bool out] ∧ Has (w3 w N on out v a o) (w.heap.size + 1) 29 #[.int .i64 v, .int .i64 a, .bool o] ∧ Has (w3 w N on out v a o) (w.heap.size + 1 + 1) 27 #[.int .i64 0, .bool false, .bool false] ∧ w.grownBy (w3 w N on out v a o) none := by
  refine ⟨((Has.fresh _ _ _).alloc _).alloc _, (fresh1 _ _ _ _).alloc _, ?_, gr_alloc (gr_alloc (World.grownBy_alloc _ _ _) _) _⟩
  have := fresh1 (w.alloc (Obj.cells #[.int .i64 N, .bool on, .bool out] 27)) (Obj.cells #[.int .i64 v, .int .i64 a, .bool o] 29) 27 #[.int .i64 0, .bool false, .bool false]
  simpa using this

set_option maxHeartbeats 2000000 in
theorem implWatched_no (N wn v a : Int) (on out o : Bool) (w : World) (hr : right (N, on, out) wn (v, a, o) = false) : Calls Try.prog 10 #[.agg #[.int .i64 N, .bool on, .bool out], .int .i64 wn, .agg #[.int .i64 v, .int .i64 a, .bool o]] w (RetF (0, false, false) w) := by
  obtain ⟨a0, a1, a2, g0⟩ := w3_has w N on out v a o
  rcases right_no hr with i0 | ⟨i0, i1⟩ | ⟨i0, i1, i2⟩
  all_goals
    clear hr
    go_enter Try.func10, Try.ntmps10
    go_wp2_with fail
    refine (implFanOk _ _ _ _).mono ?_
    rintro e w1 ⟨rfl, hg⟩
    replace a1 := a1.grown hg (by simp)
    replace a2 := a2.grown hg (by simp)
    replace g0 := gr_trans g0 hg
    clear hg a0
    obtain ⟨c0, c1, c2, f0, f1, f2⟩ := three a2
    obtain ⟨d0, d1, d2, _, _, _⟩ := three a1
  · go_wp2_with fail
    obtain ⟨k0, k1, k2, _, _, _⟩ := three (set3 a2 (.int .i64 0) (.bool false) (.bool false))
    exact bodyPost_ret (v := .agg #[.int .i64 0, .bool false, .bool false]) (by simp [results, Try.results10, go_sem, k0, k1, k2]) rfl ⟨rfl, gr_new (gr_new (gr_new g0 (by omega) _ _) (by omega) _ _) (by omega) _ _⟩
  · go_wp2_with (go_at_call 36; refine (implOutOk _ _).mono ?_; rintro e w' ⟨rfl, rfl⟩)
    obtain ⟨k0, k1, k2, _, _, _⟩ := three (set3 a2 (.int .i64 0) (.bool false) (.bool false))
    exact bodyPost_ret (v := .agg #[.int .i64 0, .bool false, .bool false]) (by simp [results, Try.results10, go_sem, k0, k1, k2]) rfl ⟨rfl, gr_new (gr_new (gr_new g0 (by omega) _ _) (by omega) _ _) (by omega) _ _⟩
  · go_wp2_with (go_at_call 36; refine (implOutOk _ _).mono ?_; rintro e w' ⟨rfl, rfl⟩)
    refine (rd.implReadingOk _ _ _ _).mono ?_
    rintro e w2 ⟨rfl, hg⟩
    replace a2 := a2.grown hg (by simp)
    replace g0 := gr_trans g0 hg
    clear c0 c1 c2 f0 f1 f2 d0 d1 d2
    obtain ⟨c0, c1, c2, f0, f1, f2⟩ := three a2
    go_wp2_with fail
    obtain ⟨k0, k1, k2, _, _, _⟩ := three (set3 a2 (.int .i64 0) (.bool false) (.bool false))
    exact bodyPost_ret (v := .agg #[.int .i64 0, .bool false, .bool false]) (by simp [results, Try.results10, go_sem, k0, k1, k2]) rfl ⟨rfl, gr_new (gr_new (gr_new g0 (by omega) _ _) (by omega) _ _) (by omega) _ _⟩

set_option maxHeartbeats 2000000 in
theorem implWatched_ok (N wn v a : Int) (on out o : Bool) (w : World) (hr : right (N, on, out) wn (v, a, o) = true) : Calls Try.prog 10 #[.agg #[.int .i64 N, .bool on, .bool out], .int .i64 wn, .agg #[.int .i64 v, .int .i64 a, .bool o]] w (RetF (watched (N, on, out) wn (v, a, o)) w) := by
  obtain ⟨a0, a1, a2, g0⟩ := w3_has w N on out v a o
  obtain ⟨⟨h0, h1⟩, ⟨hw0, hw1⟩, i2⟩ := right_iff.1 hr
  have hv := (okR_iff.1 i2).1
  have i0 : inb N 0 100 = true := inb_iff.2 ⟨h0, h1⟩
  have i1 : inb wn 0 1000 = true := inb_iff.2 ⟨hw0, hw1⟩
  by_cases hw : 100 ≤ wn
  · rw [watched_hi hr hw]
    clear hr
    go_enter Try.func10, Try.ntmps10
    go_wp2_with fail
    refine (implFanOk _ _ _ _).mono ?_
    rintro e w1 ⟨rfl, hg⟩
    replace a0 := a0.grown hg (by simp)
    replace a1 := a1.grown hg (by simp)
    replace a2 := a2.grown hg (by simp)
    replace g0 := gr_trans g0 hg
    clear hg
    obtain ⟨d0, d1, d2, _, _, _⟩ := three a1
    go_wp2_with (go_at_call 36; refine (implOutOk _ _).mono ?_; rintro e w' ⟨rfl, rfl⟩)
    refine (rd.implReadingOk _ _ _ _).mono ?_
    rintro e w2 ⟨rfl, hg⟩
    replace a0 := a0.grown hg (by simp)
    replace a1 := a1.grown hg (by simp)
    replace a2 := a2.grown hg (by simp)
    replace g0 := gr_trans g0 hg
    clear hg d0 d1 d2 i0 i1
    obtain ⟨c0, c1, c2, f0, f1, f2⟩ := three a0
    go_wp2_with fail
    clear i2 c0 c1 c2 f0 f1 f2
    have s2 := a2.lt
    replace a1 := a1.alloc (Obj.cells #[.int .i64 N, .bool on, .bool out] 66)
    replace a2 := a2.alloc (Obj.cells #[.int .i64 N, .bool on, .bool out] 66)
    have b0 := Has.fresh w2 66 #[.int .i64 N, .bool on, .bool out]
    replace g0 := gr_alloc g0 (Obj.cells #[.int .i64 N, .bool on, .bool out] 66)
    generalize hx : w2.heap.size = x at *
    generalize w2.alloc (Obj.cells #[.int .i64 N, .bool on, .bool out] 66) = w3 at *
    clear hx a0
    obtain ⟨c0, c1, c2⟩ := three_rg b0
    obtain ⟨d0, d1, d2⟩ := three_rg a1
    refine region_below_tail 5 (by kernel_rfl) (by kernel_rfl) ?_
    simp only [List.take_succ_cons, List.take_zero, List.drop_succ_cons, List.drop_zero]
    repeat (quiet_step (first | (go_at_call 39; exact rg_ret (implIsLow _ _ _ _ _ hv)) | (go_at_call 38; exact rg_fan (implFeltW _ _ _ _ _ h0 h1))))
    refine wpQuiet_nil ?_
    intro _ hw'
    obtain ⟨⟨dq, osq⟩, hw''⟩ := hw'
    subst hw''
    have gq := gr_rg w3 dq osq
    replace b0 := b0.grown gq (by simp)
    replace a2 := a2.grown gq (by simp)
    replace g0 := gr_trans g0 gq
    clear gq c0 c1 c2 d0 d1 d2 a1
    generalize Go.Sort.grow (redrawn w3 dq) osq = w4 at *
    generalize felt (N, on, out) (lowB wn (v, a, o)) = ff at *
    obtain ⟨M, O, o2⟩ := ff
    obtain ⟨c0, c1, c2, f0, f1, f2⟩ := three b0
    go_wp2_with fail
    replace a2 := ((a2.set_other (g' := x) (by omega) 0 (.int .i64 M)).set_other (g' := x) (by omega) 1 (.bool O)).set_other (g' := x) (by omega) 2 (.bool o2)
    replace g0 := gr_new (gr_new (gr_new g0 (g := x) (by omega) 0 (.int .i64 M)) (g := x) (by omega) 1 (.bool O)) (g := x) (by omega) 2 (.bool o2)
    clear c0 c1 c2 f0 f1 f2 b0
    refine (implFanW _ _ _ _).mono ?_
    rintro e w5 ⟨rfl, hg⟩
    replace a2 := a2.grown hg (by simp)
    replace g0 := gr_trans g0 hg
    clear hg
    generalize outed (M, O, o2) = P at *
    obtain ⟨c0, c1, c2, f0, f1, f2⟩ := three a2
    go_wp2_with fail
    obtain ⟨k0, k1, k2, _, _, _⟩ := three (set3 a2 (.int .i64 P.1) (.bool P.2.1) (.bool P.2.2))
    exact bodyPost_ret (v := .agg #[.int .i64 P.1, .bool P.2.1, .bool P.2.2]) (by simp [results, Try.results10, go_sem, k0, k1, k2]) rfl ⟨rfl, gr_new (gr_new (gr_new g0 (by omega) _ _) (by omega) _ _) (by omega) _ _⟩
  · rw [watched_low hr (by omega)]
    clear hr
    go_enter Try.func10, Try.ntmps10
    go_wp2_with fail
    refine (implFanOk _ _ _ _).mono ?_
    rintro e w1 ⟨rfl, hg⟩
    replace a0 := a0.grown hg (by simp)
    replace a1 := a1.grown hg (by simp)
    replace a2 := a2.grown hg (by simp)
    replace g0 := gr_trans g0 hg
    clear hg
    obtain ⟨d0, d1, d2, _, _, _⟩ := three a1
    go_wp2_with (go_at_call 36; refine (implOutOk _ _).mono ?_; rintro e w' ⟨rfl, rfl⟩)
    refine (rd.implReadingOk _ _ _ _).mono ?_
    rintro e w2 ⟨rfl, hg⟩
    replace a0 := a0.grown hg (by simp)
    replace a2 := a2.grown hg (by simp)
    replace g0 := gr_trans g0 hg
    clear hg d0 d1 d2 i0 i1
    obtain ⟨c0, c1, c2, f0, f1, f2⟩ := three a0
    go_wp2_with fail
    replace a2 := a2.alloc (Obj.cells #[.int .i64 N, .bool on, .bool out] 66)
    replace g0 := gr_alloc g0 (Obj.cells #[.int .i64 N, .bool on, .bool out] 66)
    clear i2 c0 c1 c2 f0 f1 f2
    refine (implFanW _ _ _ _).mono ?_
    rintro e w5 ⟨rfl, hg⟩
    replace a2 := a2.grown hg (by simp)
    replace g0 := gr_trans g0 hg
    clear hg
    generalize outed (N, on, out) = P at *
    obtain ⟨c0, c1, c2, f0, f1, f2⟩ := three a2
    go_wp2_with fail
    obtain ⟨k0, k1, k2, _, _, _⟩ := three (set3 a2 (.int .i64 P.1) (.bool P.2.1) (.bool P.2.2))
    exact bodyPost_ret (v := .agg #[.int .i64 P.1, .bool P.2.1, .bool P.2.2]) (by simp [results, Try.results10, go_sem, k0, k1, k2]) rfl ⟨rfl, gr_new (gr_new (gr_new g0 (by omega) _ _) (by omega) _ _) (by omega) _ _⟩

theorem implWatched (N wn v a : Int) (on out o : Bool) (w : World) : Calls Try.prog 10 #[.agg #[.int .i64 N, .bool on, .bool out], .int .i64 wn, .agg #[.int .i64 v, .int .i64 a, .bool o]] w (RetF (watched (N, on, out) wn (v, a, o)) w) := by
  by_cases h : right (N, on, out) wn (v, a, o) = true
  · exact implWatched_ok N wn v a on out o w h
  · have h' : right (N, on, out) wn (v, a, o) = false := by simpa using h
    rw [watched_no h']
    exact implWatched_no N wn v a on out o w h'
end Go.Proofs.Ytdpoecebjjcicaa.fan
