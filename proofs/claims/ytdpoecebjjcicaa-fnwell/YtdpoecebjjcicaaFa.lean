/- Chapter 9 on plain triples; a fan in memory; the small functions of both sides. -/
import Derived.Test.YtdpoecebjjcicaaRd
import Derived.Test.YtdpoecebjjcicaaBncImpl
namespace Go.Proofs.Ytdpoecebjjcicaa.fan
open Go.ChangeShapes Go.WideShapes Go.ChangeAt Go.RowKit
open Go.Proofs.Ytdpoecebjjcicaa.nums Go.Proofs.Ytdpoecebjjcicaa.mem
open Go.Proofs.Ytdpoecebjjcicaa.rd (R okR fresh three set3 fresh1 okR_iff)
open Go.Proofs.Ytdpoecebjjcicaa.bnc (feel inb_iff inb_no)
open Go.Proofs.Ytdpoecebjjcicaa.tab (Ret quiet_w wpList_make_has)
set_option linter.unusedVariables false

/-- A fan: its bounce's number, whether it is on, whether it is given up. -/
abbrev F := Int × Bool × Bool
def zF : F := (0, false, false)
def okF (f : F) : Bool := inb f.1 0 100
def lowB (wn : Int) (r : R) : Bool := !fresh r 3 || decide (2 * r.1 < wn)
/-- What one sign does. -/
def felt (f : F) (s : Bool) : F := ((feel 5 5 (f.1, f.2.1) s).1, (feel 5 5 (f.1, f.2.1) s).2, f.2.2)
def outed (f : F) : F := (f.1, f.2.1, f.2.2 || f.2.1)
def right (f : F) (wn : Int) (r : R) : Bool := okF f && (inb wn 0 1000 && okR r)
def watched (f : F) (wn : Int) (r : R) : F :=
  if right f wn r = true then (if 100 ≤ wn then outed (felt f (lowB wn r)) else outed f) else zF
theorem right_iff {f : F} {wn : Int} {r : R} : right f wn r = true ↔ (0 ≤ f.1 ∧ f.1 ≤ 100) ∧ (0 ≤ wn ∧ wn ≤ 1000) ∧ okR r = true := by
  unfold right okF; simp [inb_iff]
theorem watched_no {f : F} {wn : Int} {r : R} (h : right f wn r = false) : watched f wn r = (0, false, false) := if_neg (by rw [h]; simp)
theorem watched_low {f : F} {wn : Int} {r : R} (h : right f wn r = true) (hw : wn < 100) : watched f wn r = outed f := by
  unfold watched; rw [if_pos h, if_neg (by omega)]
theorem watched_hi {f : F} {wn : Int} {r : R} (h : right f wn r = true) (hw : 100 ≤ wn) : watched f wn r = outed (felt f (lowB wn r)) := by
  unfold watched; rw [if_pos h, if_pos hw]
theorem felt_rng {N : Int} {on out : Bool} (s : Bool) (h0 : 0 ≤ N) (h1 : N ≤ 100) : 0 ≤ (felt (N, on, out) s).1 ∧ (felt (N, on, out) s).1 ≤ 100 :=
  bnc.feel_rng (b := (N, on)) s ⟨by omega, by omega⟩ ⟨by omega, by omega⟩ h0 h1

/-- It returns this fan; of what was there nothing is another. -/
def RetF (f : F) (w : World) (e : Ending) (w' : World) : Prop := e = .returned (.agg #[.int .i64 f.1, .bool f.2.1, .bool f.2.2]) ∧ w.grownBy w' none

theorem specFanOk (N : Int) (on out : Bool) (w : World) : Calls Try.prog 17 #[.agg #[.int .i64 N, .bool on, .bool out]] w (Ret (.bool (inb N 0 100)) w) := by
  go_enter Try.func17, Try.ntmps17
  go_wp2_with fail
  refine (bnc.specBounceOk _ _ _).mono ?_
  rintro e w' ⟨rfl, hg⟩
  go_wp2_with fail
  go_ret
  exact ⟨rfl, gr_trans (World.grownBy_alloc _ _ _) hg⟩

theorem implFanOk (N : Int) (on out : Bool) (w : World) : Calls Try.prog 16 #[.agg #[.int .i64 N, .bool on, .bool out]] w (Ret (.bool (inb N 0 100)) w) := by
  go_enter Try.func16, Try.ntmps16
  go_wp2_with fail
  refine (bnc.implBounceOk _ _ _).mono ?_
  rintro e w' ⟨rfl, hg⟩
  go_wp2_with fail
  go_ret
  exact ⟨rfl, gr_trans (World.grownBy_alloc _ _ _) hg⟩

theorem implOutOk (x : Int) (w : World) : Calls Try.prog 36 #[.int .i64 x] w fun e w' => e = .returned (.bool (inb x 0 1000)) ∧ w = w' := by
  by_cases h : 0 ≤ x
  · go_enter Try.func36, Try.ntmps36
    go_wp2
    go_ret
    exact ⟨fix.ret_bool (by unfold inb; simp [h]), rfl⟩
  · go_enter Try.func36, Try.ntmps36
    go_wp2
    go_ret
    exact ⟨fix.ret_bool (by unfold inb; simp; omega), rfl⟩

theorem implIsLow (wn v a : Int) (o : Bool) (w : World) (hv : -1000000 ≤ v ∧ v ≤ 1000000) : Calls Try.prog 39 #[.int .i64 wn, .agg #[.int .i64 v, .int .i64 a, .bool o]] w (Ret (.bool (lowB wn (v, a, o))) w) := by
  have a0 := Has.fresh w 29 #[.int .i64 v, .int .i64 a, .bool o]
  have g0 := World.grownBy_alloc w (Obj.cells #[.int .i64 v, .int .i64 a, .bool o] 29) none
  obtain ⟨hv0, hv1⟩ := hv
  by_cases h : fresh (v, a, o) 3 = true
  · go_enter Try.func39, Try.ntmps39
    go_wp2_with fail
    refine (rd.implIsFresh _ _ _ _ _).mono ?_
    rintro e w1 ⟨rfl, hg⟩
    replace a0 := a0.grown hg (by simp)
    replace g0 := gr_trans g0 hg
    obtain ⟨c0, c1, c2, _, _, _⟩ := three a0
    go_wp2_with fail
    go_ret
    exact ⟨fix.ret_bool (by unfold lowB; rw [h]; simp), g0⟩
  · have h' : fresh (v, a, o) 3 = false := by simpa using h
    clear h
    go_enter Try.func39, Try.ntmps39
    go_wp2_with fail
    refine (rd.implIsFresh _ _ _ _ _).mono ?_
    rintro e w1 ⟨rfl, hg⟩
    replace g0 := gr_trans g0 hg
    go_wp2_with fail
    go_ret
    exact ⟨fix.ret_bool (by unfold lowB; rw [h']; simp), g0⟩

set_option maxHeartbeats 1000000 in
theorem implFeltW (N : Int) (on out s : Bool) (w : World) (h0 : 0 ≤ N) (h1 : N ≤ 100) : Calls Try.prog 38 #[.agg #[.int .i64 N, .bool on, .bool out], .bool s] w (RetF (felt (N, on, out) s) w) := by
  have a0 := (Has.fresh w 66 #[.int .i64 N, .bool on, .bool out]).alloc (Obj.cells #[.int .i64 0, .bool false, .bool false] 66)
  have a1 := fresh1 w (Obj.cells #[.int .i64 N, .bool on, .bool out] 66) 66 #[.int .i64 0, .bool false, .bool false]
  have g0 : w.grownBy ((w.alloc (Obj.cells #[.int .i64 N, .bool on, .bool out] 66)).alloc (Obj.cells #[.int .i64 0, .bool false, .bool false] 66)) none := gr_alloc (World.grownBy_alloc _ _ _) _
  cases s
  · go_enter Try.func38, Try.ntmps38
    go_wp2_with fail
    refine (bnc.implFallen N on 5 5 _ h0 h1 (by omega)).mono ?_
    rintro e w1 ⟨rfl, hg⟩
    generalize hM : (feel 5 5 (N, on) false).1 = M
    generalize hO : (feel 5 5 (N, on) false).2 = O
    have hE := Lib.hid (show felt (N, on, out) false = (M, O, out) by unfold felt; rw [hM, hO])
    clear hM hO
    replace a0 := a0.grown hg (by simp)
    replace a1 := a1.grown hg (by simp)
    replace g0 := gr_trans g0 hg
    clear hg
    obtain ⟨c0, c1, c2, f0, f1, f2⟩ := three a0
    obtain ⟨d0, d1, d2, p0, p1, p2⟩ := three a1
    go_wp2_with fail
    have b1 := set3 ((a1.set_other (g' := w.heap.size) (by simp) 0 (.int .i64 M)).set_other (g' := w.heap.size) (by simp) 1 (.bool O)) (.int .i64 M) (.bool O) (.bool out)
    obtain ⟨k0, k1, k2, _, _, _⟩ := three b1
    exact bodyPost_ret (v := .agg #[.int .i64 M, .bool O, .bool out]) (by simp [results, Try.results38, go_sem, k0, k1, k2]) rfl ⟨by rw [hE.out], gr_new (gr_new (gr_new (gr_new (gr_new g0 (by omega) _ _) (by omega) _ _) (by omega) _ _) (by omega) _ _) (by omega) _ _⟩
  · go_enter Try.func38, Try.ntmps38
    go_wp2_with fail
    refine (bnc.implRisen N on 5 5 _ h0 h1).mono ?_
    rintro e w1 ⟨rfl, hg⟩
    generalize hM : (feel 5 5 (N, on) true).1 = M
    generalize hO : (feel 5 5 (N, on) true).2 = O
    have hE := Lib.hid (show felt (N, on, out) true = (M, O, out) by unfold felt; rw [hM, hO])
    clear hM hO
    replace a0 := a0.grown hg (by simp)
    replace a1 := a1.grown hg (by simp)
    replace g0 := gr_trans g0 hg
    clear hg
    obtain ⟨c0, c1, c2, f0, f1, f2⟩ := three a0
    obtain ⟨d0, d1, d2, p0, p1, p2⟩ := three a1
    go_wp2_with fail
    have b1 := set3 ((a1.set_other (g' := w.heap.size) (by simp) 0 (.int .i64 M)).set_other (g' := w.heap.size) (by simp) 1 (.bool O)) (.int .i64 M) (.bool O) (.bool out)
    obtain ⟨k0, k1, k2, _, _, _⟩ := three b1
    exact bodyPost_ret (v := .agg #[.int .i64 M, .bool O, .bool out]) (by simp [results, Try.results38, go_sem, k0, k1, k2]) rfl ⟨by rw [hE.out], gr_new (gr_new (gr_new (gr_new (gr_new g0 (by omega) _ _) (by omega) _ _) (by omega) _ _) (by omega) _ _) (by omega) _ _⟩

set_option maxHeartbeats 1000000 in
theorem implFanW (N : Int) (on out : Bool) (w : World) : Calls Try.prog 40 #[.agg #[.int .i64 N, .bool on, .bool out]] w (RetF (outed (N, on, out)) w) := by
  cases out
  all_goals
    go_enter Try.func40, Try.ntmps40
    go_wp2_with fail
  · exact bodyPost_ret (v := .agg #[.int .i64 N, .bool on, .bool on]) (by simp [results, Try.results40, go_sem]) rfl ⟨by simp [outed], gr_alloc (World.grownBy_alloc _ _ _) _⟩
  · exact bodyPost_ret (v := .agg #[.int .i64 N, .bool on, .bool true]) (by simp [results, Try.results40, go_sem]) rfl ⟨by simp [outed], gr_alloc (World.grownBy_alloc _ _ _) _⟩
end Go.Proofs.Ytdpoecebjjcicaa.fan
