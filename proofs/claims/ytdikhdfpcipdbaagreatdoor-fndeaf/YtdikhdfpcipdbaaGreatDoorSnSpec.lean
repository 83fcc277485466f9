/- Chapter 8 on plain numbers; IsSane and Taken of the model. -/
import Derived.Test.YtdikhdfpcipdbaaGreatDoorSn
import Derived.Test.YtdikhdfpcipdbaaGreatDoorRd
namespace Go.Proofs.YtdikhdfpcipdbaaGreatDoor.sane
open Go.ChangeShapes Go.WideShapes Go.ChangeAt Go.RowKit
open Go.Proofs.YtdikhdfpcipdbaaGreatDoor.nums Go.Proofs.YtdikhdfpcipdbaaGreatDoor.mem
open Go.Proofs.YtdikhdfpcipdbaaGreatDoor.tab (Ret quiet_w)
open Go.Proofs.YtdikhdfpcipdbaaGreatDoor.rd (okR okR_iff RetR)
set_option linter.unusedVariables false

/-- Not too far from what was: no more than the rate by the age and one. -/
def nearB (ra v a x : Int) : Bool := decide (max (x - v) (-(x - v)) ≤ ra * (a + 1))
def saneB (lo hi ra v a x : Int) (o : Bool) : Bool := okG lo hi ra && (okR (v, a, o) && (inb x lo hi && (!o || nearB ra v a x)))
def taken (lo hi ra v a x : Int) (o : Bool) : rd.R := if (okG lo hi ra && okR (v, a, o)) = true then (if saneB lo hi ra v a x o = true then (x, 0, true) else (v, min 1000 (a + 1), o)) else (0, 0, false)
theorem taken_no {lo hi ra v a x : Int} {o : Bool} (h : (okG lo hi ra && okR (v, a, o)) = false) : taken lo hi ra v a x o = (0, 0, false) := if_neg (by rw [h]; simp)
theorem taken_got {lo hi ra v a x : Int} {o : Bool} (h : okG lo hi ra = true) (h' : okR (v, a, o) = true) (hs : saneB lo hi ra v a x o = true) : taken lo hi ra v a x o = (x, 0, true) := by
  unfold taken; rw [if_pos (by rw [h, h']; rfl), if_pos hs]
theorem taken_old {lo hi ra v a x : Int} {o : Bool} (h : okG lo hi ra = true) (h' : okR (v, a, o) = true) (hs : saneB lo hi ra v a x o = false) : taken lo hi ra v a x o = (v, min 1000 (a + 1), o) := by
  unfold taken; rw [if_pos (by rw [h, h']; rfl), if_neg (by rw [hs]; simp)]
theorem sane_in {lo hi ra v a x : Int} {o : Bool} (hs : saneB lo hi ra v a x o = true) : lo ≤ x ∧ x ≤ hi := by
  unfold saneB at hs; simp at hs; exact inb_iff.1 hs.2.2.1
theorem prod_bd {ra a : Int} (h1 : 1 ≤ ra) (h2 : ra ≤ 1000000) (h3 : 0 ≤ a) (h4 : a ≤ 1000) : 0 ≤ ra * (a + 1) ∧ ra * (a + 1) ≤ 1001000000 :=
  ⟨Int.mul_nonneg (by omega) (by omega), (mul_bd (m := 1000000) (n := 1001) (by omega) h2 (by omega) (by omega)).2⟩

set_option maxHeartbeats 1000000 in
theorem specIsSane (lo hi ra v a x : Int) (o : Bool) (w : World) : Calls Tryz.prog 102 #[.agg #[.int .i64 lo, .int .i64 hi, .int .i64 ra], .agg #[.int .i64 v, .int .i64 a, .bool o], .int .i64 x] w (Ret (.bool (saneB lo hi ra v a x o)) w) := by
  have aG := (Has.fresh w 72 #[.int .i64 lo, .int .i64 hi, .int .i64 ra]).alloc (Obj.cells #[.int .i64 v, .int .i64 a, .bool o] 42)
  have aR := rd.fresh1 w (Obj.cells #[.int .i64 lo, .int .i64 hi, .int .i64 ra] 72) 42 #[.int .i64 v, .int .i64 a, .bool o]
  have g0 : w.grownBy ((w.alloc (Obj.cells #[.int .i64 lo, .int .i64 hi, .int .i64 ra] 72)).alloc (Obj.cells #[.int .i64 v, .int .i64 a, .bool o] 42)) none := gr_alloc (World.grownBy_alloc _ _ _) _
  rcases Bool.eq_false_or_eq_true (okG lo hi ra) with h0 | h0
  rotate_left
  · go_enter Tryz.func102, Tryz.ntmps102
    go_wp2_with fail
    refine (specRangeOk _ _ _ _).mono ?_
    rintro e w1 ⟨rfl, hg⟩
    replace aG := aG.grown hg (by simp)
    replace aR := aR.grown hg (by simp)
    replace g0 := gr_trans g0 hg
    clear hg
    obtain ⟨c0, c1, c2, cf0, cf1, cf2⟩ := rd.three aG
    obtain ⟨d0, d1, d2, df0, df1, df2⟩ := rd.three aR
    go_wp2_with fail
    go_ret
    exact ⟨fix.ret_bool (by unfold saneB; simp [h0]), g0⟩
  rcases Bool.eq_false_or_eq_true (okR (v, a, o)) with h1 | h1
  rotate_left
  · go_enter Tryz.func102, Tryz.ntmps102
    go_wp2_with fail
    refine (specRangeOk _ _ _ _).mono ?_
    rintro e w1 ⟨rfl, hg⟩
    replace aG := aG.grown hg (by simp)
    replace aR := aR.grown hg (by simp)
    replace g0 := gr_trans g0 hg
    clear hg
    obtain ⟨c0, c1, c2, cf0, cf1, cf2⟩ := rd.three aG
    obtain ⟨d0, d1, d2, df0, df1, df2⟩ := rd.three aR
    go_wp2_with fail
    refine (rd.specReadingOk _ _ _ _).mono ?_
    rintro e w2 ⟨rfl, hg⟩
    replace aG := aG.grown hg (by simp)
    replace aR := aR.grown hg (by simp)
    replace g0 := gr_trans g0 hg
    clear hg
    clear c0 c1 c2 cf0 cf1 cf2
    clear d0 d1 d2 df0 df1 df2
    obtain ⟨c0, c1, c2, cf0, cf1, cf2⟩ := rd.three aG
    obtain ⟨d0, d1, d2, df0, df1, df2⟩ := rd.three aR
    go_wp2_with fail
    go_ret
    exact ⟨fix.ret_bool (by unfold saneB; simp [h1]), g0⟩
  rcases Bool.eq_false_or_eq_true (inb x lo hi) with h2 | h2
  rotate_left
  · go_enter Tryz.func102, Tryz.ntmps102
    go_wp2_with fail
    refine (specRangeOk _ _ _ _).mono ?_
    rintro e w1 ⟨rfl, hg⟩
    replace aG := aG.grown hg (by simp)
    replace aR := aR.grown hg (by simp)
    replace g0 := gr_trans g0 hg
    clear hg
    obtain ⟨c0, c1, c2, cf0, cf1, cf2⟩ := rd.three aG
    obtain ⟨d0, d1, d2, df0, df1, df2⟩ := rd.three aR
    go_wp2_with fail
    refine (rd.specReadingOk _ _ _ _).mono ?_
    rintro e w2 ⟨rfl, hg⟩
    replace aG := aG.grown hg (by simp)
    replace aR := aR.grown hg (by simp)
    replace g0 := gr_trans g0 hg
    clear hg
    clear c0 c1 c2 cf0 cf1 cf2
    clear d0 d1 d2 df0 df1 df2
    obtain ⟨c0, c1, c2, cf0, cf1, cf2⟩ := rd.three aG
    obtain ⟨d0, d1, d2, df0, df1, df2⟩ := rd.three aR
    go_wp2_with (go_at_call 24; refine (fix.specIn _ _ _ _).mono ?_; rintro e w' ⟨rfl, rfl⟩)
    go_ret
    exact ⟨fix.ret_bool (by unfold saneB; simp [h2]), g0⟩
  obtain ⟨⟨lo0, lo1⟩, ⟨hi0, hi1⟩, _, ra0, ra1⟩ := okG_iff.1 h0
  obtain ⟨⟨v0, v1⟩, a0, a1⟩ := okR_iff.1 h1
  obtain ⟨x0, x1⟩ := inb_iff.1 h2
  obtain ⟨p0, p1⟩ := prod_bd ra0 ra1 a0 a1
  cases o
  · go_enter Tryz.func102, Tryz.ntmps102
    go_wp2_with fail
    refine (specRangeOk _ _ _ _).mono ?_
    rintro e w1 ⟨rfl, hg⟩
    replace aG := aG.grown hg (by simp)
    replace aR := aR.grown hg (by simp)
    replace g0 := gr_trans g0 hg
    clear hg
    obtain ⟨c0, c1, c2, cf0, cf1, cf2⟩ := rd.three aG
    obtain ⟨d0, d1, d2, df0, df1, df2⟩ := rd.three aR
    go_wp2_with fail
    refine (rd.specReadingOk _ _ _ _).mono ?_
    rintro e w2 ⟨rfl, hg⟩
    replace aG := aG.grown hg (by simp)
    replace aR := aR.grown hg (by simp)
    replace g0 := gr_trans g0 hg
    clear hg
    clear c0 c1 c2 cf0 cf1 cf2
    clear d0 d1 d2 df0 df1 df2
    obtain ⟨c0, c1, c2, cf0, cf1, cf2⟩ := rd.three aG
    obtain ⟨d0, d1, d2, df0, df1, df2⟩ := rd.three aR
    go_wp2_with (go_at_call 24; refine (fix.specIn _ _ _ _).mono ?_; rintro e w' ⟨rfl, rfl⟩)
    go_quiet (fail)
    go_wp2_with fail
    go_ret
    exact ⟨fix.ret_bool (by unfold saneB; simp [h0, h1, h2]), gr_drewN g0 _⟩
  · go_enter Tryz.func102, Tryz.ntmps102
    go_wp2_with fail
    refine (specRangeOk _ _ _ _).mono ?_
    rintro e w1 ⟨rfl, hg⟩
    replace aG := aG.grown hg (by simp)
    replace aR := aR.grown hg (by simp)
    replace g0 := gr_trans g0 hg
    clear hg
    obtain ⟨c0, c1, c2, cf0, cf1, cf2⟩ := rd.three aG
    obtain ⟨d0, d1, d2, df0, df1, df2⟩ := rd.three aR
    go_wp2_with fail
    refine (rd.specReadingOk _ _ _ _).mono ?_
    rintro e w2 ⟨rfl, hg⟩
    replace aG := aG.grown hg (by simp)
    replace aR := aR.grown hg (by simp)
    replace g0 := gr_trans g0 hg
    clear hg
    clear c0 c1 c2 cf0 cf1 cf2
    clear d0 d1 d2 df0 df1 df2
    obtain ⟨c0, c1, c2, cf0, cf1, cf2⟩ := rd.three aG
    obtain ⟨d0, d1, d2, df0, df1, df2⟩ := rd.three aR
    go_wp2_with (go_at_call 24; refine (fix.specIn _ _ _ _).mono ?_; rintro e w' ⟨rfl, rfl⟩)
    go_quiet ((go_at_call 26; exact quiet_w (fix.specMax _ _ _)))
    go_wp2_with fail
    go_ret
    exact ⟨fix.ret_bool (by unfold saneB; simp [h0, h1, h2, nearB]), gr_drewN g0 _⟩

theorem got_in {lo hi ra v a x : Int} {o : Bool} (h : okG lo hi ra = true) (h' : okR (v, a, o) = true) (hs : saneB lo hi ra v a x o = true) : rd.got (v, a, o) x = (x, 0, true) := by
  have h1 := okG_iff.1 h
  have h2 := sane_in hs
  exact rd.got_ok h' (inb_iff.2 (by omega))

set_option maxHeartbeats 1000000 in
theorem specTaken (lo hi ra v a x : Int) (o : Bool) (w : World) : Calls Tryz.prog 77 #[.agg #[.int .i64 lo, .int .i64 hi, .int .i64 ra], .agg #[.int .i64 v, .int .i64 a, .bool o], .int .i64 x] w (RetR (taken lo hi ra v a x o) w) := by
  have aG := ((Has.fresh w 72 #[.int .i64 lo, .int .i64 hi, .int .i64 ra]).alloc (Obj.cells #[.int .i64 v, .int .i64 a, .bool o] 42)).alloc (Obj.cells #[.int .i64 0, .int .i64 0, .bool false] 42)
  have aR := (rd.fresh1 w (Obj.cells #[.int .i64 lo, .int .i64 hi, .int .i64 ra] 72) 42 #[.int .i64 v, .int .i64 a, .bool o]).alloc (Obj.cells #[.int .i64 0, .int .i64 0, .bool false] 42)
  have aZ := rd.fresh1 (w.alloc (Obj.cells #[.int .i64 lo, .int .i64 hi, .int .i64 ra] 72)) (Obj.cells #[.int .i64 v, .int .i64 a, .bool o] 42) 42 #[.int .i64 0, .int .i64 0, .bool false]
  have g0 : w.grownBy (((w.alloc (Obj.cells #[.int .i64 lo, .int .i64 hi, .int .i64 ra] 72)).alloc (Obj.cells #[.int .i64 v, .int .i64 a, .bool o] 42)).alloc (Obj.cells #[.int .i64 0, .int .i64 0, .bool false] 42)) none := gr_alloc (gr_alloc (World.grownBy_alloc _ _ _) _) _
  simp only [World.size_alloc] at aZ
  rcases Bool.eq_false_or_eq_true (okG lo hi ra) with h0 | h0
  rotate_left
  · rw [taken_no (by rw [h0]; rfl)]
    go_enter Tryz.func77, Tryz.ntmps77
    go_wp2_with fail
    refine (specRangeOk _ _ _ _).mono ?_
    rintro e w1 ⟨rfl, hg⟩
    replace aG := aG.grown hg (by simp)
    replace aR := aR.grown hg (by simp)
    replace aZ := aZ.grown hg (by simp)
    replace g0 := gr_trans g0 hg
    clear hg
    obtain ⟨z0, z1, z2, zf0, zf1, zf2⟩ := rd.three aZ
    go_wp2_with fail
    obtain ⟨k0, k1, k2, _, _, _⟩ := rd.three (rd.set3 aZ (.int .i64 (0)) (.int .i64 (0)) (.bool false))
    exact bodyPost_ret (v := .agg #[.int .i64 (0), .int .i64 (0), .bool false]) (by simp [results, Tryz.results77, go_sem, k0, k1, k2]) rfl ⟨rfl, gr_new (gr_new (gr_new g0 (by omega) _ _) (by omega) _ _) (by omega) _ _⟩
  rcases Bool.eq_false_or_eq_true (okR (v, a, o)) with h1 | h1
  rotate_left
  · rw [taken_no (by rw [h1]; simp)]
    go_enter Tryz.func77, Tryz.ntmps77
    go_wp2_with fail
    refine (specRangeOk _ _ _ _).mono ?_
    rintro e w1 ⟨rfl, hg⟩
    replace aG := aG.grown hg (by simp)
    replace aR := aR.grown hg (by simp)
    replace aZ := aZ.grown hg (by simp)
    replace g0 := gr_trans g0 hg
    clear hg
    obtain ⟨d0, d1, d2, df0, df1, df2⟩ := rd.three aR
    go_wp2_with fail
    refine (rd.specReadingOk _ _ _ _).mono ?_
    rintro e w2 ⟨rfl, hg⟩
    replace aG := aG.grown hg (by simp)
    replace aR := aR.grown hg (by simp)
    replace aZ := aZ.grown hg (by simp)
    replace g0 := gr_trans g0 hg
    clear hg
    clear d0 d1 d2 df0 df1 df2
    obtain ⟨z0, z1, z2, zf0, zf1, zf2⟩ := rd.three aZ
    go_wp2_with fail
    obtain ⟨k0, k1, k2, _, _, _⟩ := rd.three (rd.set3 aZ (.int .i64 (0)) (.int .i64 (0)) (.bool false))
    exact bodyPost_ret (v := .agg #[.int .i64 (0), .int .i64 (0), .bool false]) (by simp [results, Tryz.results77, go_sem, k0, k1, k2]) rfl ⟨rfl, gr_new (gr_new (gr_new g0 (by omega) _ _) (by omega) _ _) (by omega) _ _⟩
  rcases Bool.eq_false_or_eq_true (saneB lo hi ra v a x o) with h2 | h2
  · have hgot := fun W => got_in h0 h1 h2 ▸ rd.specGot v a x o W
    rw [taken_got h0 h1 h2]
    go_enter Tryz.func77, Tryz.ntmps77
    go_wp2_with fail
    refine (specRangeOk _ _ _ _).mono ?_
    rintro e w1 ⟨rfl, hg⟩
    replace aG := aG.grown hg (by simp)
    replace aR := aR.grown hg (by simp)
    replace aZ := aZ.grown hg (by simp)
    replace g0 := gr_trans g0 hg
    clear hg
    obtain ⟨d0, d1, d2, df0, df1, df2⟩ := rd.three aR
    go_wp2_with fail
    refine (rd.specReadingOk _ _ _ _).mono ?_
    rintro e w2 ⟨rfl, hg⟩
    replace aG := aG.grown hg (by simp)
    replace aR := aR.grown hg (by simp)
    replace aZ := aZ.grown hg (by simp)
    replace g0 := gr_trans g0 hg
    clear hg
    clear d0 d1 d2 df0 df1 df2
    obtain ⟨c0, c1, c2, cf0, cf1, cf2⟩ := rd.three aG
    obtain ⟨d0, d1, d2, df0, df1, df2⟩ := rd.three aR
    go_wp2_with fail
    refine (specIsSane _ _ _ _ _ _ _ _).mono ?_
    rintro e w3 ⟨rfl, hg⟩
    replace aG := aG.grown hg (by simp)
    replace aR := aR.grown hg (by simp)
    replace aZ := aZ.grown hg (by simp)
    replace g0 := gr_trans g0 hg
    clear hg
    clear c0 c1 c2 cf0 cf1 cf2
    clear d0 d1 d2 df0 df1 df2
    obtain ⟨d0, d1, d2, df0, df1, df2⟩ := rd.three aR
    go_wp2_with fail
    refine (hgot _).mono ?_
    rintro e w4 ⟨rfl, hg⟩
    replace aZ := aZ.grown hg (by simp)
    replace g0 := gr_trans g0 hg
    clear hg
    clear d0 d1 d2 df0 df1 df2
    obtain ⟨z0, z1, z2, zf0, zf1, zf2⟩ := rd.three aZ
    go_wp2_with fail
    obtain ⟨k0, k1, k2, _, _, _⟩ := rd.three (rd.set3 aZ (.int .i64 (x)) (.int .i64 (0)) (.bool true))
    exact bodyPost_ret (v := .agg #[.int .i64 (x), .int .i64 (0), .bool true]) (by simp [results, Tryz.results77, go_sem, k0, k1, k2]) rfl ⟨rfl, gr_new (gr_new (gr_new g0 (by omega) _ _) (by omega) _ _) (by omega) _ _⟩
  · obtain ⟨_, a0, a1⟩ := okR_iff.1 h1
    rw [taken_old h0 h1 h2]
    go_enter Tryz.func77, Tryz.ntmps77
    go_wp2_with fail
    refine (specRangeOk _ _ _ _).mono ?_
    rintro e w1 ⟨rfl, hg⟩
    replace aG := aG.grown hg (by simp)
    replace aR := aR.grown hg (by simp)
    replace aZ := aZ.grown hg (by simp)
    replace g0 := gr_trans g0 hg
    clear hg
    obtain ⟨d0, d1, d2, df0, df1, df2⟩ := rd.three aR
    go_wp2_with fail
    refine (rd.specReadingOk _ _ _ _).mono ?_
    rintro e w2 ⟨rfl, hg⟩
    replace aG := aG.grown hg (by simp)
    replace aR := aR.grown hg (by simp)
    replace aZ := aZ.grown hg (by simp)
    replace g0 := gr_trans g0 hg
    clear hg
    clear d0 d1 d2 df0 df1 df2
    obtain ⟨c0, c1, c2, cf0, cf1, cf2⟩ := rd.three aG
    obtain ⟨d0, d1, d2, df0, df1, df2⟩ := rd.three aR
    go_wp2_with fail
    refine (specIsSane _ _ _ _ _ _ _ _).mono ?_
    rintro e w3 ⟨rfl, hg⟩
    replace aG := aG.grown hg (by simp)
    replace aR := aR.grown hg (by simp)
    replace aZ := aZ.grown hg (by simp)
    replace g0 := gr_trans g0 hg
    clear hg
    clear c0 c1 c2 cf0 cf1 cf2
    clear d0 d1 d2 df0 df1 df2
    obtain ⟨d0, d1, d2, df0, df1, df2⟩ := rd.three aR
    go_wp2_with fail
    refine (rd.specAge _ _ _ _ a0 a1).mono ?_
    rintro e w4 ⟨rfl, hg⟩
    replace aZ := aZ.grown hg (by simp)
    replace g0 := gr_trans g0 hg
    clear hg
    clear d0 d1 d2 df0 df1 df2
    obtain ⟨z0, z1, z2, zf0, zf1, zf2⟩ := rd.three aZ
    go_wp2_with fail
    obtain ⟨k0, k1, k2, _, _, _⟩ := rd.three (rd.set3 aZ (.int .i64 (v)) (.int .i64 (min 1000 (a + 1))) (.bool o))
    exact bodyPost_ret (v := .agg #[.int .i64 (v), .int .i64 (min 1000 (a + 1)), .bool o]) (by simp [results, Tryz.results77, go_sem, k0, k1, k2]) rfl ⟨rfl, gr_new (gr_new (gr_new g0 (by omega) _ _) (by omega) _ _) (by omega) _ _⟩
end Go.Proofs.YtdikhdfpcipdbaaGreatDoor.sane
