/- Chapter 8 of the program: isTooFast and whyNot. -/
import Derived.Test.YtdikhdfpcipdbaaGreatDoorSnIs
import Derived.Test.YtdikhdfpcipdbaaGreatDoorSnSpec
namespace Go.Proofs.YtdikhdfpcipdbaaGreatDoor.sane
open Go.ChangeShapes Go.WideShapes Go.ChangeAt Go.RowKit
open Go.Proofs.YtdikhdfpcipdbaaGreatDoor.nums Go.Proofs.YtdikhdfpcipdbaaGreatDoor.mem
open Go.Proofs.YtdikhdfpcipdbaaGreatDoor.tab (Ret quiet_w)
open Go.Proofs.YtdikhdfpcipdbaaGreatDoor.rd (okR okR_iff RetR)
set_option linter.unusedVariables false

theorem fast_near (ra v a x : Int) : decide (max v x - min v x > ra * (a + 1)) = !nearB ra v a x := by
  unfold nearB
  have h : max v x - min v x = max (x - v) (-(x - v)) := by omega
  rw [h]
  by_cases hh : max (x - v) (-(x - v)) ≤ ra * (a + 1)
  · simp [hh]
  · simp [hh]; omega
theorem fast_of {ra v a x d : Int} (h : d = max v x - min v x) : decide (d > ra * (a + 1)) = (true && !nearB ra v a x) := by
  rw [h, fast_near]; rfl
set_option maxHeartbeats 1000000 in
theorem implTooFast (ra v a x : Int) (o : Bool) (w : World) (hra : 1 ≤ ra ∧ ra ≤ 1000000) (hv : -1000000 ≤ v ∧ v ≤ 1000000) (ha : 0 ≤ a ∧ a ≤ 1000) (hx : -1000000 ≤ x ∧ x ≤ 1000000) : Calls Tryz.prog 125 #[.int .i64 ra, .agg #[.int .i64 v, .int .i64 a, .bool o], .int .i64 x] w (Ret (.bool (o && !nearB ra v a x)) w) := by
  have aR := Has.fresh w 42 #[.int .i64 v, .int .i64 a, .bool o]
  have g0 : w.grownBy (w.alloc (Obj.cells #[.int .i64 v, .int .i64 a, .bool o] 42)) none := World.grownBy_alloc _ _ _
  obtain ⟨d0, d1, d2, df0, df1, df2⟩ := rd.three aR
  obtain ⟨p0, p1⟩ := prod_bd hra.1 hra.2 ha.1 ha.2
  obtain ⟨ra0, ra1⟩ := hra
  obtain ⟨v0, v1⟩ := hv
  obtain ⟨a0, a1⟩ := ha
  obtain ⟨x0, x1⟩ := hx
  cases o
  · go_enter Tryz.func125, Tryz.ntmps125
    go_wp2_with fail
    all_goals (go_ret; exact ⟨fix.ret_bool (by simp), g0⟩)
  · go_enter Tryz.func125, Tryz.ntmps125
    go_wp2_with fail
    all_goals (go_ret; exact ⟨fix.ret_bool (fast_of (by omega)), g0⟩)
/-- The three package variables hold errors at n, f and q. -/
structure Errs (w : World) (n f q : Addr) : Prop where
  cn : w.cell? ⟨3, 0, none⟩ = some (.iface 253 (.pointer (some n)))
  cf : w.cell? ⟨4, 0, none⟩ = some (.iface 253 (.pointer (some f)))
  cq : w.cell? ⟨5, 0, none⟩ = some (.iface 253 (.pointer (some q)))
theorem cell_kept {w w' : World} {a : Addr} {v : Value} (h : w.cell? a = some v) (hg : w.grownBy w' none) : w'.cell? a = some v := by
  have hl : a.block < w.heap.size := by
    rcases Nat.lt_or_ge a.block w.heap.size with h1 | h1
    · exact h1
    · simp [World.cell?, Array.getElem?_eq_none h1] at h
  rw [← h]; unfold World.cell?; rw [hg.block a.block hl (by simp)]
theorem Errs.kept {w w' : World} {n f q : Addr} (h : Errs w n f q) (hg : w.grownBy w' none) : Errs w' n f q := ⟨cell_kept h.cn hg, cell_kept h.cf hg, cell_kept h.cq hg⟩
/-- Why a value is refused, or nil. -/
def whyE (lo hi ra v a x : Int) (o : Bool) (n f q : Addr) : Value :=
  if (okG lo hi ra && okR (v, a, o)) = false then refE v a o n else if inb x lo hi = false then refE v a o f else if (o && !nearB ra v a x) = true then refE v a o q else .nilIface

set_option maxHeartbeats 1000000 in
theorem implWhyNot (lo hi ra v a x : Int) (o : Bool) (n f q : Addr) (w : World) (he : Errs w n f q) : Calls Tryz.prog 115 #[.agg #[.int .i64 lo, .int .i64 hi, .int .i64 ra], .agg #[.int .i64 v, .int .i64 a, .bool o], .int .i64 x] w (Ret (whyE lo hi ra v a x o n f q) w) := by
  have aG := (Has.fresh w 72 #[.int .i64 lo, .int .i64 hi, .int .i64 ra]).alloc (Obj.cells #[.int .i64 v, .int .i64 a, .bool o] 42)
  have aR := rd.fresh1 w (Obj.cells #[.int .i64 lo, .int .i64 hi, .int .i64 ra] 72) 42 #[.int .i64 v, .int .i64 a, .bool o]
  have g0 : w.grownBy ((w.alloc (Obj.cells #[.int .i64 lo, .int .i64 hi, .int .i64 ra] 72)).alloc (Obj.cells #[.int .i64 v, .int .i64 a, .bool o] 42)) none := gr_alloc (World.grownBy_alloc _ _ _) _
  have hE := he.kept g0
  rcases Bool.eq_false_or_eq_true (okG lo hi ra) with h0 | h0
  rotate_left
  · go_enter Tryz.func115, Tryz.ntmps115
    go_wp2_with fail
    refine (implRangeOk _ _ _ _).mono ?_
    rintro e w1 ⟨rfl, hg⟩
    replace aG := aG.grown hg (by simp)
    replace aR := aR.grown hg (by simp)
    replace g0 := gr_trans g0 hg
    replace hE := hE.kept hg
    clear hg
    obtain ⟨c0, c1, c2, cf0, cf1, cf2⟩ := rd.three aG
    obtain ⟨d0, d1, d2, df0, df1, df2⟩ := rd.three aR
    have en := hE.cn
    have ef := hE.cf
    have eq := hE.cq
    go_wp2_with fail
    go_ret
    exact ⟨by unfold whyE refE; simp [h0], g0⟩
  rcases Bool.eq_false_or_eq_true (okR (v, a, o)) with h1 | h1
  rotate_left
  · go_enter Tryz.func115, Tryz.ntmps115
    go_wp2_with fail
    refine (implRangeOk _ _ _ _).mono ?_
    rintro e w1 ⟨rfl, hg⟩
    replace aG := aG.grown hg (by simp)
    replace aR := aR.grown hg (by simp)
    replace g0 := gr_trans g0 hg
    replace hE := hE.kept hg
    clear hg
    obtain ⟨c0, c1, c2, cf0, cf1, cf2⟩ := rd.three aG
    obtain ⟨d0, d1, d2, df0, df1, df2⟩ := rd.three aR
    have en := hE.cn
    have ef := hE.cf
    have eq := hE.cq
    go_wp2_with fail
    refine (rd.implReadingOk _ _ _ _).mono ?_
    rintro e w2 ⟨rfl, hg⟩
    replace aG := aG.grown hg (by simp)
    replace aR := aR.grown hg (by simp)
    replace g0 := gr_trans g0 hg
    replace hE := hE.kept hg
    clear hg
    clear c0 c1 c2 cf0 cf1 cf2 d0 d1 d2 df0 df1 df2 en ef eq
    obtain ⟨c0, c1, c2, cf0, cf1, cf2⟩ := rd.three aG
    obtain ⟨d0, d1, d2, df0, df1, df2⟩ := rd.three aR
    have en := hE.cn
    have ef := hE.cf
    have eq := hE.cq
    go_wp2_with fail
    go_ret
    exact ⟨by unfold whyE refE; simp [h0, h1], g0⟩
  obtain ⟨⟨lo0, lo1⟩, ⟨hi0, hi1⟩, _, ra0, ra1⟩ := okG_iff.1 h0
  obtain ⟨⟨v0, v1⟩, a0, a1⟩ := okR_iff.1 h1
  rcases Bool.eq_false_or_eq_true (inb x lo hi) with h2 | h2
  rotate_left
  · go_enter Tryz.func115, Tryz.ntmps115
    go_wp2_with fail
    refine (implRangeOk _ _ _ _).mono ?_
    rintro e w1 ⟨rfl, hg⟩
    replace aG := aG.grown hg (by simp)
    replace aR := aR.grown hg (by simp)
    replace g0 := gr_trans g0 hg
    replace hE := hE.kept hg
    clear hg
    obtain ⟨c0, c1, c2, cf0, cf1, cf2⟩ := rd.three aG
    obtain ⟨d0, d1, d2, df0, df1, df2⟩ := rd.three aR
    have en := hE.cn
    have ef := hE.cf
    have eq := hE.cq
    go_wp2_with fail
    refine (rd.implReadingOk _ _ _ _).mono ?_
    rintro e w2 ⟨rfl, hg⟩
    replace aG := aG.grown hg (by simp)
    replace aR := aR.grown hg (by simp)
    replace g0 := gr_trans g0 hg
    replace hE := hE.kept hg
    clear hg
    clear c0 c1 c2 cf0 cf1 cf2 d0 d1 d2 df0 df1 df2 en ef eq
    obtain ⟨c0, c1, c2, cf0, cf1, cf2⟩ := rd.three aG
    obtain ⟨d0, d1, d2, df0, df1, df2⟩ := rd.three aR
    have en := hE.cn
    have ef := hE.cf
    have eq := hE.cq
    have h3 := inb_no.1 h2
    go_wp2_with fail
    all_goals (go_ret; exact ⟨by unfold whyE refE; simp [h0, h1, h2], g0⟩)
  obtain ⟨x0, x1⟩ := inb_iff.1 h2
  rcases Bool.eq_false_or_eq_true (o && !nearB ra v a x) with h3 | h3
  · go_enter Tryz.func115, Tryz.ntmps115
    go_wp2_with fail
    refine (implRangeOk _ _ _ _).mono ?_
    rintro e w1 ⟨rfl, hg⟩
    replace aG := aG.grown hg (by simp)
    replace aR := aR.grown hg (by simp)
    replace g0 := gr_trans g0 hg
    replace hE := hE.kept hg
    clear hg
    obtain ⟨c0, c1, c2, cf0, cf1, cf2⟩ := rd.three aG
    obtain ⟨d0, d1, d2, df0, df1, df2⟩ := rd.three aR
    have en := hE.cn
    have ef := hE.cf
    have eq := hE.cq
    go_wp2_with fail
    refine (rd.implReadingOk _ _ _ _).mono ?_
    rintro e w2 ⟨rfl, hg⟩
    replace aG := aG.grown hg (by simp)
    replace aR := aR.grown hg (by simp)
    replace g0 := gr_trans g0 hg
    replace hE := hE.kept hg
    clear hg
    clear c0 c1 c2 cf0 cf1 cf2 d0 d1 d2 df0 df1 df2 en ef eq
    obtain ⟨c0, c1, c2, cf0, cf1, cf2⟩ := rd.three aG
    obtain ⟨d0, d1, d2, df0, df1, df2⟩ := rd.three aR
    have en := hE.cn
    have ef := hE.cf
    have eq := hE.cq
    go_wp2_with fail
    refine (implTooFast ra v a x o _ ⟨ra0, ra1⟩ ⟨v0, v1⟩ ⟨a0, a1⟩ ⟨by omega, by omega⟩).mono ?_
    rintro e w3 ⟨rfl, hg⟩
    replace aG := aG.grown hg (by simp)
    replace aR := aR.grown hg (by simp)
    replace g0 := gr_trans g0 hg
    replace hE := hE.kept hg
    clear hg
    clear c0 c1 c2 cf0 cf1 cf2 d0 d1 d2 df0 df1 df2 en ef eq
    obtain ⟨c0, c1, c2, cf0, cf1, cf2⟩ := rd.three aG
    obtain ⟨d0, d1, d2, df0, df1, df2⟩ := rd.three aR
    have en := hE.cn
    have ef := hE.cf
    have eq := hE.cq
    rw [h3]
    go_wp2_with fail
    go_ret
    exact ⟨by unfold whyE refE; simp [h0, h1, h2, h3], g0⟩
  · go_enter Tryz.func115, Tryz.ntmps115
    go_wp2_with fail
    refine (implRangeOk _ _ _ _).mono ?_
    rintro e w1 ⟨rfl, hg⟩
    replace aG := aG.grown hg (by simp)
    replace aR := aR.grown hg (by simp)
    replace g0 := gr_trans g0 hg
    replace hE := hE.kept hg
    clear hg
    obtain ⟨c0, c1, c2, cf0, cf1, cf2⟩ := rd.three aG
    obtain ⟨d0, d1, d2, df0, df1, df2⟩ := rd.three aR
    have en := hE.cn
    have ef := hE.cf
    have eq := hE.cq
    go_wp2_with fail
    refine (rd.implReadingOk _ _ _ _).mono ?_
    rintro e w2 ⟨rfl, hg⟩
    replace aG := aG.grown hg (by simp)
    replace aR := aR.grown hg (by simp)
    replace g0 := gr_trans g0 hg
    replace hE := hE.kept hg
    clear hg
    clear c0 c1 c2 cf0 cf1 cf2 d0 d1 d2 df0 df1 df2 en ef eq
    obtain ⟨c0, c1, c2, cf0, cf1, cf2⟩ := rd.three aG
    obtain ⟨d0, d1, d2, df0, df1, df2⟩ := rd.three aR
    have en := hE.cn
    have ef := hE.cf
    have eq := hE.cq
    go_wp2_with fail
    refine (implTooFast ra v a x o _ ⟨ra0, ra1⟩ ⟨v0, v1⟩ ⟨a0, a1⟩ ⟨by omega, by omega⟩).mono ?_
    rintro e w3 ⟨rfl, hg⟩
    replace aG := aG.grown hg (by simp)
    replace aR := aR.grown hg (by simp)
    replace g0 := gr_trans g0 hg
    replace hE := hE.kept hg
    clear hg
    clear c0 c1 c2 cf0 cf1 cf2 d0 d1 d2 df0 df1 df2 en ef eq
    obtain ⟨c0, c1, c2, cf0, cf1, cf2⟩ := rd.three aG
    obtain ⟨d0, d1, d2, df0, df1, df2⟩ := rd.three aR
    have en := hE.cn
    have ef := hE.cf
    have eq := hE.cq
    rw [h3]
    go_wp2_with fail
    go_ret
    exact ⟨by unfold whyE refE; simp [h0, h1, h2, h3], g0⟩
end Go.Proofs.YtdikhdfpcipdbaaGreatDoor.sane
