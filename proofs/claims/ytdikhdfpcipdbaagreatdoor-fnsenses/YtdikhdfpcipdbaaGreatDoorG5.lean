/- Chapter 8 on plain numbers; IsSane and Taken of the model. Plain texts of chapter 4: digits, numbers, frames and their sums, as lists of bytes. Nothing here names the program. SumOf, the program's and the model's: each gives the sum of the plain text. FrameOk, the program's and the model's, and what they call. -/
import Derived.Test.YtdikhdfpcipdbaaGreatDoorG4
import Derived.Test.YtdikhdfpcipdbaaGreatDoorG3
import Derived.Lib.ItoaNum
import Derived.Lib.Join
import Derived.Test.YtdikhdfpcipdbaaGreatDoorRows
import Derived.WalkKit
import Derived.ProofKit
import Derived.OpenShut
import Derived.IntWalk
import Derived.WalkSpells
import Derived.Test.YtdikhdfpcipdbaaGreatDoorG1
import Derived.Test.YtdikhdfpcipdbaaGreatDoorG2
import Derived.Deep.RegionHeld3
import Derived.Deep.QuietTactic
import Derived.Lib.Hide
import Derived.Lib.QuietBelow
/- Chapter 8 on plain numbers; IsSane and Taken of the model. -/
namespace Go.Proofs.YtdikhdfpcipdbaaGreatDoor.sane
open Go.ChangeShapes Go.WideShapes Go.ChangeAt Go.RowKit
open Go.Proofs.YtdikhdfpcipdbaaGreatDoor.nums Go.Proofs.YtdikhdfpcipdbaaGreatDoor.mem
open Go.Proofs.YtdikhdfpcipdbaaGreatDoor.tab (Ret quiet_w)
open Go.Proofs.YtdikhdfpcipdbaaGreatDoor.rd (okR okR_iff RetR)
set_option linter.unusedVariables false

/-- Not too far from what was: no more than the rate by the age and one. -/
def nearB (ra v a x : Int) : Bool := decide (max (x - v) (-(x - v)) ≤ ra * (a + 1))
def saneB (lo hi ra v a x : Int) (o : Bool) : Bool := okG lo hi ra && (okR (v, a, o) && (inb x lo hi && (!o || nearB ra v a x)))
def taken (lo hi ra v a x : Int) (o : Bool) : rd.R := if (okG lo hi ra && okR (v, a, o)) = true then (if saneB lo hi ra v a x o = true then (x, 0, true) else (v, min 1000 (a + 1), o)) else (0, 0, false)
theorem taken_no {lo hi ra v a x : Int} {o : Bool} (h : (okG lo hi ra && okR (v, a, o)) = false) : taken lo hi ra v a x o = (0, 0, false) := if_neg (by rw [h]; simp)
theorem taken_got {lo hi ra v a x : Int} {o : Bool} (h : okG lo hi ra = true) (h' : okR (v, a, o) = true) (hs : saneB lo hi ra v a x o = true) : taken lo hi ra v a x o = (x, 0, true) := by
  unfold taken; rw [if_pos (by rw [h, h']; rfl), if_pos hs]
theorem taken_old {lo hi ra v a x : Int} {o : Bool} (h : okG lo hi ra = true) (h' : okR (v, a, o) = true) (hs : saneB lo hi ra v a x o = false) : taken lo hi ra v a x o = (v, min 1000 (a + 1), o) := by
  unfold taken; rw [if_pos (by rw [h, h']; rfl), if_neg (by rw [hs]; simp)]
theorem sane_in {lo hi ra v a x : Int} {o : Bool} (hs : saneB lo hi ra v a x o = true) : lo ≤ x ∧ x ≤ hi := by
  unfold saneB at hs; simp at hs; exact inb_iff.1 hs.2.2.1
theorem prod_bd {ra a : Int} (h1 : 1 ≤ ra) (h2 : ra ≤ 1000000) (h3 : 0 ≤ a) (h4 : a ≤ 1000) : 0 ≤ ra * (a + 1) ∧ ra * (a + 1) ≤ 1001000000 :=
  ⟨Int.mul_nonneg (by omega) (by omega), (mul_bd (m := 1000000) (n := 1001) (by omega) h2 (by omega) (by omega)).2⟩

set_option maxHeartbeats 1000000 in
theorem specIsSane (lo hi ra v a x : Int) (o : Bool) (w : World) : Calls Tryz.prog 102 #[.agg #[.int .i64 lo, .int .i64 hi, .int .i64 ra], .agg #[.int .i64 v, .int .i64 a, .bool o], .int .i64 x] w (Ret (.bool (saneB lo hi ra v a x o)) w) := by
  have aG := (Has.fresh w 72 #[.int .i64 lo, .int .i64 hi, .int .i64 ra]).alloc (Obj.cells #[.int .i64 v, .int .i64 a, .bool o] 42)
  have aR := rd.fresh1 w (Obj.cells #[.int .i64 lo, .int .i64 hi, .int .i64 ra] 72) 42 #[.int .i64 v, .int .i64 a, .bool o]
  have g0 : w.grownBy ((w.alloc (Obj.cells #[.int .i64 lo, .int .i64 hi, .int .i64 ra] 72)).alloc (Obj.cells #[.int .i64 v, .int .i64 a, .bool o] 42)) none := gr_alloc (World.grownBy_alloc _ _ _) _
  rcases Bool.eq_false_or_eq_true (okG lo hi ra) with h0 | h0
  rotate_left
  · go_enter Tryz.func102, Tryz.ntmps102
    go_wp2_with fail
    refine (specRangeOk _ _ _ _).mono ?_
    rintro e w1 ⟨rfl, hg⟩
    replace aG := aG.grown hg (by simp)
    replace aR := aR.grown hg (by simp)
    replace g0 := gr_trans g0 hg
    clear hg
    obtain ⟨c0, c1, c2, cf0, cf1, cf2⟩ := rd.three aG
    obtain ⟨d0, d1, d2, df0, df1, df2⟩ := rd.three aR
    go_wp2_with fail
    go_ret
    exact ⟨fix.ret_bool (by unfold saneB; simp [h0]), g0⟩
  rcases Bool.eq_false_or_eq_true (okR (v, a, o)) with h1 | h1
  rotate_left
  · go_enter Tryz.func102, Tryz.ntmps102
    go_wp2_with fail
    refine (specRangeOk _ _ _ _).mono ?_
    rintro e w1 ⟨rfl, hg⟩
    replace aG := aG.grown hg (by simp)
    replace aR := aR.grown hg (by simp)
    replace g0 := gr_trans g0 hg
    clear hg
    obtain ⟨c0, c1, c2, cf0, cf1, cf2⟩ := rd.three aG
    obtain ⟨d0, d1, d2, df0, df1, df2⟩ := rd.three aR
    go_wp2_with fail
    refine (rd.specReadingOk _ _ _ _).mono ?_
    rintro e w2 ⟨rfl, hg⟩
    replace aG := aG.grown hg (by simp)
    replace aR := aR.grown hg (by simp)
    replace g0 := gr_trans g0 hg
    clear hg
    clear c0 c1 c2 cf0 cf1 cf2
    clear d0 d1 d2 df0 df1 df2
    obtain ⟨c0, c1, c2, cf0, cf1, cf2⟩ := rd.three aG
    obtain ⟨d0, d1, d2, df0, df1, df2⟩ := rd.three aR
    go_wp2_with fail
    go_ret
    exact ⟨fix.ret_bool (by unfold saneB; simp [h1]), g0⟩
  rcases Bool.eq_false_or_eq_true (inb x lo hi) with h2 | h2
  rotate_left
  · go_enter Tryz.func102, Tryz.ntmps102
    go_wp2_with fail
    refine (specRangeOk _ _ _ _).mono ?_
    rintro e w1 ⟨rfl, hg⟩
    replace aG := aG.grown hg (by simp)
    replace aR := aR.grown hg (by simp)
    replace g0 := gr_trans g0 hg
    clear hg
    obtain ⟨c0, c1, c2, cf0, cf1, cf2⟩ := rd.three aG
    obtain ⟨d0, d1, d2, df0, df1, df2⟩ := rd.three aR
    go_wp2_with fail
    refine (rd.specReadingOk _ _ _ _).mono ?_
    rintro e w2 ⟨rfl, hg⟩
    replace aG := aG.grown hg (by simp)
    replace aR := aR.grown hg (by simp)
    replace g0 := gr_trans g0 hg
    clear hg
    clear c0 c1 c2 cf0 cf1 cf2
    clear d0 d1 d2 df0 df1 df2
    obtain ⟨c0, c1, c2, cf0, cf1, cf2⟩ := rd.three aG
    obtain ⟨d0, d1, d2, df0, df1, df2⟩ := rd.three aR
    go_wp2_with (go_at_call 24; refine (fix.specIn _ _ _ _).mono ?_; rintro e w' ⟨rfl, rfl⟩)
    go_ret
    exact ⟨fix.ret_bool (by unfold saneB; simp [h2]), g0⟩
  obtain ⟨⟨lo0, lo1⟩, ⟨hi0, hi1⟩, _, ra0, ra1⟩ := okG_iff.1 h0
  obtain ⟨⟨v0, v1⟩, a0, a1⟩ := okR_iff.1 h1
  obtain ⟨x0, x1⟩ := inb_iff.1 h2
  obtain ⟨p0, p1⟩ := prod_bd ra0 ra1 a0 a1
  cases o
  · go_enter Tryz.func102, Tryz.ntmps102
    go_wp2_with fail
    refine (specRangeOk _ _ _ _).mono ?_
    rintro e w1 ⟨rfl, hg⟩
    replace aG := aG.grown hg (by simp)
    replace aR := aR.grown hg (by simp)
    replace g0 := gr_trans g0 hg
    clear hg
    obtain ⟨c0, c1, c2, cf0, cf1, cf2⟩ := rd.three aG
    obtain ⟨d0, d1, d2, df0, df1, df2⟩ := rd.three aR
    go_wp2_with fail
    refine (rd.specReadingOk _ _ _ _).mono ?_
    rintro e w2 ⟨rfl, hg⟩
    replace aG := aG.grown hg (by simp)
    replace aR := aR.grown hg (by simp)
    replace g0 := gr_trans g0 hg
    clear hg
    clear c0 c1 c2 cf0 cf1 cf2
    clear d0 d1 d2 df0 df1 df2
    obtain ⟨c0, c1, c2, cf0, cf1, cf2⟩ := rd.three aG
    obtain ⟨d0, d1, d2, df0, df1, df2⟩ := rd.three aR
    go_wp2_with (go_at_call 24; refine (fix.specIn _ _ _ _).mono ?_; rintro e w' ⟨rfl, rfl⟩)
    go_quiet (fail)
    go_wp2_with fail
    go_ret
    exact ⟨fix.ret_bool (by unfold saneB; simp [h0, h1, h2]), gr_drewN g0 _⟩
  · go_enter Tryz.func102, Tryz.ntmps102
    go_wp2_with fail
    refine (specRangeOk _ _ _ _).mono ?_
    rintro e w1 ⟨rfl, hg⟩
    replace aG := aG.grown hg (by simp)
    replace aR := aR.grown hg (by simp)
    replace g0 := gr_trans g0 hg
    clear hg
    obtain ⟨c0, c1, c2, cf0, cf1, cf2⟩ := rd.three aG
    obtain ⟨d0, d1, d2, df0, df1, df2⟩ := rd.three aR
    go_wp2_with fail
    refine (rd.specReadingOk _ _ _ _).mono ?_
    rintro e w2 ⟨rfl, hg⟩
    replace aG := aG.grown hg (by simp)
    replace aR := aR.grown hg (by simp)
    replace g0 := gr_trans g0 hg
    clear hg
    clear c0 c1 c2 cf0 cf1 cf2
    clear d0 d1 d2 df0 df1 df2
    obtain ⟨c0, c1, c2, cf0, cf1, cf2⟩ := rd.three aG
    obtain ⟨d0, d1, d2, df0, df1, df2⟩ := rd.three aR
    go_wp2_with (go_at_call 24; refine (fix.specIn _ _ _ _).mono ?_; rintro e w' ⟨rfl, rfl⟩)
    go_quiet ((go_at_call 26; exact quiet_w (fix.specMax _ _ _)))
    go_wp2_with fail
    go_ret
    exact ⟨fix.ret_bool (by unfold saneB; simp [h0, h1, h2, nearB]), gr_drewN g0 _⟩

theorem got_in {lo hi ra v a x : Int} {o : Bool} (h : okG lo hi ra = true) (h' : okR (v, a, o) = true) (hs : saneB lo hi ra v a x o = true) : rd.got (v, a, o) x = (x, 0, true) := by
  have h1 := okG_iff.1 h
  have h2 := sane_in hs
  exact rd.got_ok h' (inb_iff.2 (by omega))

set_option maxHeartbeats 1000000 in
theorem specTaken (lo hi ra v a x : Int) (o : Bool) (w : World) : Calls Tryz.prog 77 #[.agg #[.int .i64 lo, .int .i64 hi, .int .i64 ra], .agg #[.int .i64 v, .int .i64 a, .bool o], .int .i64 x] w (RetR (taken lo hi ra v a x o) w) := by
  have aG := ((Has.fresh w 72 #[.int .i64 lo, .int .i64 hi, .int .i64 ra]).alloc (Obj.cells #[.int .i64 v, .int .i64 a, .bool o] 42)).alloc (Obj.cells #[.int .i64 0, .int .i64 0, .bool false] 42)
  have aR := (rd.fresh1 w (Obj.cells #[.int .i64 lo, .int .i64 hi, .int .i64 ra] 72) 42 #[.int .i64 v, .int .i64 a, .bool o]).alloc (Obj.cells #[.int .i64 0, .int .i64 0, .bool false] 42)
  have aZ := rd.fresh1 (w.alloc (Obj.cells #[.int .i64 lo, .int .i64 hi, .int .i64 ra] 72)) (Obj.cells #[.int .i64 v, .int .i64 a, .bool o] 42) 42 #[.int .i64 0, .int .i64 0, .bool false]
  have g0 : w.grownBy (((w.alloc (Obj.cells #[.int .i64 lo, .int .i64 hi, .int .i64 ra] 72)).alloc (Obj.cells #[.int .i64 v, .int .i64 a, .bool o] 42)).alloc (Obj.cells #[.int .i64 0, .int .i64 0, .bool false] 42)) none := gr_alloc (gr_alloc (World.grownBy_alloc _ _ _) _) _
  simp only [World.size_alloc] at aZ
  rcases Bool.eq_false_or_eq_true (okG lo hi ra) with h0 | h0
  rotate_left
  · rw [taken_no (by rw [h0]; rfl)]
    go_enter Tryz.func77, Tryz.ntmps77
    go_wp2_with fail
    refine (specRangeOk _ _ _ _).mono ?_
    rintro e w1 ⟨rfl, hg⟩
    replace aG := aG.grown hg (by simp)
    replace aR := aR.grown hg (by simp)
    replace aZ := aZ.grown hg (by simp)
    replace g0 := gr_trans g0 hg
    clear hg
    obtain ⟨z0, z1, z2, zf0, zf1, zf2⟩ := rd.three aZ
    go_wp2_with fail
    obtain ⟨k0, k1, k2, _, _, _⟩ := rd.three (rd.set3 aZ (.int .i64 (0)) (.int .i64 (0)) (.bool false))
    exact bodyPost_ret (v := .agg #[.int .i64 (0), .int .i64 (0), .bool false]) (by simp [results, Tryz.results77, go_sem, k0, k1, k2]) rfl ⟨rfl, gr_new (gr_new (gr_new g0 (by omega) _ _) (by omega) _ _) (by omega) _ _⟩
  rcases Bool.eq_false_or_eq_true (okR (v, a, o)) with h1 | h1
  rotate_left
  · rw [taken_no (by rw [h1]; simp)]
    go_enter Tryz.func77, Tryz.ntmps77
    go_wp2_with fail
    refine (specRangeOk _ _ _ _).mono ?_
    rintro e w1 ⟨rfl, hg⟩
    replace aG := aG.grown hg (by simp)
    replace aR := aR.grown hg (by simp)
    replace aZ := aZ.grown hg (by simp)
    replace g0 := gr_trans g0 hg
    clear hg
    obtain ⟨d0, d1, d2, df0, df1, df2⟩ := rd.three aR
    go_wp2_with fail
    refine (rd.specReadingOk _ _ _ _).mono ?_
    rintro e w2 ⟨rfl, hg⟩
    replace aG := aG.grown hg (by simp)
    replace aR := aR.grown hg (by simp)
    replace aZ := aZ.grown hg (by simp)
    replace g0 := gr_trans g0 hg
    clear hg
    clear d0 d1 d2 df0 df1 df2
    obtain ⟨z0, z1, z2, zf0, zf1, zf2⟩ := rd.three aZ
    go_wp2_with fail
    obtain ⟨k0, k1, k2, _, _, _⟩ := rd.three (rd.set3 aZ (.int .i64 (0)) (.int .i64 (0)) (.bool false))
    exact bodyPost_ret (v := .agg #[.int .i64 (0), .int .i64 (0), .bool false]) (by simp [results, Tryz.results77, go_sem, k0, k1, k2]) rfl ⟨rfl, gr_new (gr_new (gr_new g0 (by omega) _ _) (by omega) _ _) (by omega) _ _⟩
  rcases Bool.eq_false_or_eq_true (saneB lo hi ra v a x o) with h2 | h2
  · have hgot := fun W => got_in h0 h1 h2 ▸ rd.specGot v a x o W
    rw [taken_got h0 h1 h2]
    go_enter Tryz.func77, Tryz.ntmps77
    go_wp2_with fail
    refine (specRangeOk _ _ _ _).mono ?_
    rintro e w1 ⟨rfl, hg⟩
    replace aG := aG.grown hg (by simp)
    replace aR := aR.grown hg (by simp)
    replace aZ := aZ.grown hg (by simp)
    replace g0 := gr_trans g0 hg
    clear hg
    obtain ⟨d0, d1, d2, df0, df1, df2⟩ := rd.three aR
    go_wp2_with fail
    refine (rd.specReadingOk _ _ _ _).mono ?_
    rintro e w2 ⟨rfl, hg⟩
    replace aG := aG.grown hg (by simp)
    replace aR := aR.grown hg (by simp)
    replace aZ := aZ.grown hg (by simp)
    replace g0 := gr_trans g0 hg
    clear hg
    clear d0 d1 d2 df0 df1 df2
    obtain ⟨c0, c1, c2, cf0, cf1, cf2⟩ := rd.three aG
    obtain ⟨d0, d1, d2, df0, df1, df2⟩ := rd.three aR
    go_wp2_with fail
    refine (specIsSane _ _ _ _ _ _ _ _).mono ?_
    rintro e w3 ⟨rfl, hg⟩
    replace aG := aG.grown hg (by simp)
    replace aR := aR.grown hg (by simp)
    replace aZ := aZ.grown hg (by simp)
    replace g0 := gr_trans g0 hg
    clear hg
    clear c0 c1 c2 cf0 cf1 cf2
    clear d0 d1 d2 df0 df1 df2
    obtain ⟨d0, d1, d2, df0, df1, df2⟩ := rd.three aR
    go_wp2_with fail
    refine (hgot _).mono ?_
    rintro e w4 ⟨rfl, hg⟩
    replace aZ := aZ.grown hg (by simp)
    replace g0 := gr_trans g0 hg
    clear hg
    clear d0 d1 d2 df0 df1 df2
    obtain ⟨z0, z1, z2, zf0, zf1, zf2⟩ := rd.three aZ
    go_wp2_with fail
    obtain ⟨k0, k1, k2, _, _, _⟩ := rd.three (rd.set3 aZ (.int .i64 (x)) (.int .i64 (0)) (.bool true))
    exact bodyPost_ret (v := .agg #[.int .i64 (x), .int .i64 (0), .bool true]) (by simp [results, Tryz.results77, go_sem, k0, k1, k2]) rfl ⟨rfl, gr_new (gr_new (gr_new g0 (by omega) _ _) (by omega) _ _) (by omega) _ _⟩
  · obtain ⟨_, a0, a1⟩ := okR_iff.1 h1
    rw [taken_old h0 h1 h2]
    go_enter Tryz.func77, Tryz.ntmps77
    go_wp2_with fail
    refine (specRangeOk _ _ _ _).mono ?_
    rintro e w1 ⟨rfl, hg⟩
    replace aG := aG.grown hg (by simp)
    replace aR := aR.grown hg (by simp)
    replace aZ := aZ.grown hg (by simp)
    replace g0 := gr_trans g0 hg
    clear hg
    obtain ⟨d0, d1, d2, df0, df1, df2⟩ := rd.three aR
    go_wp2_with fail
    refine (rd.specReadingOk _ _ _ _).mono ?_
    rintro e w2 ⟨rfl, hg⟩
    replace aG := aG.grown hg (by simp)
    replace aR := aR.grown hg (by simp)
    replace aZ := aZ.grown hg (by simp)
    replace g0 := gr_trans g0 hg
    clear hg
    clear d0 d1 d2 df0 df1 df2
    obtain ⟨c0, c1, c2, cf0, cf1, cf2⟩ := rd.three aG
    obtain ⟨d0, d1, d2, df0, df1, df2⟩ := rd.three aR
    go_wp2_with fail
    refine (specIsSane _ _ _ _ _ _ _ _).mono ?_
    rintro e w3 ⟨rfl, hg⟩
    replace aG := aG.grown hg (by simp)
    replace aR := aR.grown hg (by simp)
    replace aZ := aZ.grown hg (by simp)
    replace g0 := gr_trans g0 hg
    clear hg
    clear c0 c1 c2 cf0 cf1 cf2
    clear d0 d1 d2 df0 df1 df2
    obtain ⟨d0, d1, d2, df0, df1, df2⟩ := rd.three aR
    go_wp2_with fail
    refine (rd.specAge _ _ _ _ a0 a1).mono ?_
    rintro e w4 ⟨rfl, hg⟩
    replace aZ := aZ.grown hg (by simp)
    replace g0 := gr_trans g0 hg
    clear hg
    clear d0 d1 d2 df0 df1 df2
    obtain ⟨z0, z1, z2, zf0, zf1, zf2⟩ := rd.three aZ
    go_wp2_with fail
    obtain ⟨k0, k1, k2, _, _, _⟩ := rd.three (rd.set3 aZ (.int .i64 (v)) (.int .i64 (min 1000 (a + 1))) (.bool o))
    exact bodyPost_ret (v := .agg #[.int .i64 (v), .int .i64 (min 1000 (a + 1)), .bool o]) (by simp [results, Tryz.results77, go_sem, k0, k1, k2]) rfl ⟨rfl, gr_new (gr_new (gr_new g0 (by omega) _ _) (by omega) _ _) (by omega) _ _⟩
end Go.Proofs.YtdikhdfpcipdbaaGreatDoor.sane

/- Plain texts of chapter 4: digits, numbers, frames and their sums, as lists of bytes. Nothing here names the program. -/
namespace Go.Proofs.YtdikhdfpcipdbaaGreatDoor.txt
open Go

/-- What stands at a place of a list; 0 behind its end. -/
def nth (l : List Int) (k : Nat) : Int := l.getD k 0
def byt (l : List UInt8) (k : Nat) : UInt8 := l.getD k 0
theorem nth_lt {l : List Int} {k : Nat} (h : k < l.length) : nth l k = l[k] := by simp [nth, List.getD, h]
theorem nth_mem {l : List Int} {k : Nat} (h : k < l.length) : nth l k ∈ l := by rw [nth_lt h]; exact List.getElem_mem _
theorem nth_take {l : List Int} {k : Nat} (h : k < l.length) : l.take (k + 1) = l.take k ++ [nth l k] := by rw [List.take_add_one, nth_lt h]; simp [h]
theorem nth_snoc (l : List Int) (v : Int) (k : Nat) : nth (l ++ [v]) k = if k < l.length then nth l k else if k = l.length then v else 0 := by
  unfold nth
  by_cases h : k < l.length
  · simp [List.getD, List.getElem?_append_left h, h]
  · by_cases h2 : k = l.length
    · subst h2; simp [List.getD]
    · rw [if_neg h, if_neg h2, List.getD, List.getElem?_eq_none (by simp; omega)]; rfl
def isD (c : UInt8) : Bool := decide (48 ≤ c.toNat) && decide (c.toNat ≤ 57)
def val (ds : List UInt8) : Nat := ds.foldl (fun n c => n * 10 + (c.toNat - 48)) 0
theorem val_snoc (ds : List UInt8) (c : UInt8) : val (ds ++ [c]) = val ds * 10 + (c.toNat - 48) := by simp [val, List.foldl_append]

theorem digit_nat (d : Nat) (h : d < 10) : (UInt8.ofNat (48 + d)).toNat = 48 + d := by
  rw [UInt8.toNat_ofNat']; omega
theorem isD_digit (d : Nat) (h : d < 10) : isD (UInt8.ofNat (48 + d)) = true := by
  simp only [isD, digit_nat d h]; simp; omega

theorem dec_small {u : Nat} (h : u < 10) : Lib.decDigits u = [UInt8.ofNat (48 + u)] := by rw [Lib.decDigits, dif_pos h]
theorem dec_big {u : Nat} (h : ¬ u < 10) : Lib.decDigits u = Lib.decDigits (u / 10) ++ [UInt8.ofNat (48 + u % 10)] := by rw [Lib.decDigits, dif_neg h]

theorem dec_isD (u : Nat) : ∀ c ∈ Lib.decDigits u, isD c = true := by
  induction u using Nat.strongRecOn with
  | _ u ih =>
    by_cases h : u < 10
    · rw [dec_small h]; intro c hc; rw [List.mem_singleton.1 hc]; exact isD_digit u h
    · rw [dec_big h]; intro c hc
      rcases List.mem_append.1 hc with hc | hc
      · exact ih _ (by omega) c hc
      · rw [List.mem_singleton.1 hc]; exact isD_digit _ (Nat.mod_lt _ (by decide))
theorem dec_val (u : Nat) : val (Lib.decDigits u) = u := by
  induction u using Nat.strongRecOn with
  | _ u ih =>
    by_cases h : u < 10
    · rw [dec_small h]; simp only [val, List.foldl_cons, List.foldl_nil, digit_nat u h]; omega
    · rw [dec_big h, val_snoc, ih _ (by omega), digit_nat _ (Nat.mod_lt _ (by decide))]; omega
theorem dec_ne (u : Nat) : Lib.decDigits u ≠ [] := by
  by_cases h : u < 10
  · rw [dec_small h]; simp
  · rw [dec_big h]; simp
theorem dec_zero (u : Nat) : (Lib.decDigits u).head? = some 48 → u = 0 := by
  induction u using Nat.strongRecOn with
  | _ u ih =>
    by_cases h : u < 10
    · rw [dec_small h]
      intro e
      simp only [List.head?_cons, Option.some.injEq] at e
      have := congrArg UInt8.toNat e
      rw [digit_nat u h] at this
      simp at this; omega
    · rw [dec_big h]
      intro e
      have hne := dec_ne (u / 10)
      obtain ⟨x, xs, hx⟩ := List.exists_cons_of_ne_nil hne
      have e' : (Lib.decDigits (u / 10)).head? = some 48 := by rw [hx] at e ⊢; simpa using e
      have := ih _ (by omega) e'
      omega
theorem dec_len (k u : Nat) (h : u < 10 ^ (k + 1)) : (Lib.decDigits u).length ≤ k + 1 := by
  induction k generalizing u with
  | zero => rw [dec_small (by simpa using h)]; simp
  | succ k ih =>
    by_cases h1 : u < 10
    · rw [dec_small h1]; simp
    · rw [dec_big h1]
      have := ih (u / 10) (by rw [Nat.pow_succ] at h; exact Nat.div_lt_of_lt_mul (by rw [Nat.mul_comm]; exact h))
      simp; omega

theorem take_isD (m : List UInt8) : ∀ d, (∀ j, j < d → isD (m.getD j 0) = true) → isD (m.getD d 0) = false → m.takeWhile isD = m.take d ∧ m.dropWhile isD = m.drop d := by
  induction m with
  | nil => intro d _ _; simp
  | cons x m ih =>
    intro d h1 h2
    cases d with
    | zero => simp at h2; simp [h2]
    | succ d =>
      have h0 := h1 0 (by omega)
      simp at h0
      have := ih d (fun j hj => by have := h1 (j + 1) (by omega); simpa using this) (by simpa using h2)
      simp [h0, this]
theorem long_isD (m : List UInt8) : ∀ d, (∀ j, j < d → isD (m.getD j 0) = true) → d ≤ (m.takeWhile isD).length := by
  induction m with
  | nil => intro d h; cases d with
    | zero => simp
    | succ d => have := h 0 (by omega); simp [isD] at this
  | cons x m ih =>
    intro d h
    cases d with
    | zero => simp
    | succ d =>
      have h0 := h 0 (by omega)
      simp at h0
      have := ih d (fun j hj => by have := h (j + 1) (by omega); simpa using this)
      simp [h0]; omega

/-- The number at the beginning of what is behind a sign, and what is behind it. -/
def numAt (m : List UInt8) : Option (Nat × List UInt8) :=
  if m.takeWhile isD = [] ∨ (m.takeWhile isD).head? = some 48 ∨ 9 < (m.takeWhile isD).length then none else some (val (m.takeWhile isD), m.dropWhile isD)
def numF (s : List UInt8) : Option (Int × List UInt8) :=
  if s.head? = some 48 then some (0, s.drop 1)
  else if s.head? = some 45 then (numAt (s.drop 1)).map fun p => (-(p.1 : Int), p.2)
  else (numAt s).map fun p => ((p.1 : Int), p.2)

/-- What is no number goes on here. -/
def Stops (r : List UInt8) : Prop := isD (r.getD 0 0) = false
theorem takeWhile_dec (u : Nat) (r : List UInt8) (hr : Stops r) : (Lib.decDigits u ++ r).takeWhile isD = Lib.decDigits u ∧ (Lib.decDigits u ++ r).dropWhile isD = r := by
  have h := take_isD (Lib.decDigits u ++ r) (Lib.decDigits u).length (fun j hj => by
    have : (Lib.decDigits u ++ r).getD j 0 = (Lib.decDigits u)[j] := by simp [List.getD, List.getElem?_append_left hj, hj]
    rw [this]; exact dec_isD u _ (List.getElem_mem _)) (by
    have : (Lib.decDigits u ++ r).getD (Lib.decDigits u).length 0 = r.getD 0 0 := by simp [List.getD, List.getElem?_append_right (Nat.le_refl _)]
    rw [this]; exact hr)
  rw [h.1, h.2]
  simp
theorem numAt_dec (u : Nat) (r : List UInt8) (hr : Stops r) (h0 : u ≠ 0) (h9 : u < 1000000000) : numAt (Lib.decDigits u ++ r) = some (u, r) := by
  obtain ⟨h1, h2⟩ := takeWhile_dec u r hr
  rw [numAt, h1, h2, if_neg, dec_val]
  rintro (h | h | h)
  · exact dec_ne u h
  · exact h0 (dec_zero u h)
  · have := dec_len 8 u (by simpa using h9); omega
theorem dec_head (u : Nat) : ∃ c r, Lib.decDigits u = c :: r ∧ isD c = true := by
  obtain ⟨x, xs, hx⟩ := List.exists_cons_of_ne_nil (dec_ne u)
  exact ⟨x, xs, hx, dec_isD u x (by rw [hx]; simp)⟩
theorem numF_itoa (n : Int) (r : List UInt8) (hr : Stops r) (h1 : -1000000000 < n) (h2 : n < 1000000000) : numF (Lib.itoa n ++ r) = some (n, r) := by
  unfold Lib.itoa
  split
  · rename_i hn
    have : numF (45 :: Lib.decDigits n.natAbs ++ r) = (numAt (Lib.decDigits n.natAbs ++ r)).map fun p => (-(p.1 : Int), p.2) := by
      simp [numF]
    rw [this, numAt_dec _ _ hr (by omega) (by omega)]
    simp; omega
  · rename_i hn
    obtain ⟨c, xs, hx, hc⟩ := dec_head n.toNat
    by_cases h0 : n = 0
    · subst h0
      have e : Lib.decDigits (0 : Int).toNat = [48] := by rw [dec_small (by simp)]; rfl
      rw [e]; simp [numF]
    · have hc1 : c ≠ 48 := fun e => by
        have := dec_zero n.toNat (by rw [hx, e]; rfl)
        omega
      have hc2 : c ≠ 45 := fun e => by rw [e] at hc; simp [isD] at hc
      have : numF (Lib.decDigits n.toNat ++ r) = (numAt (Lib.decDigits n.toNat ++ r)).map fun p => ((p.1 : Int), p.2) := by
        rw [numF, if_neg (by rw [hx]; simpa using hc1), if_neg (by rw [hx]; simpa using hc2)]
      rw [this, numAt_dec _ _ hr (by omega) (by omega)]
      simp; omega
/-! ### Frames -/
def many (k : Int) : Int := if k = 1 then 3 else if k = 2 then 2 else if k = 3 then 6 else if k = 4 then 2 else -1
def sz (n : Int) : Bool := decide (-1000000 ≤ n) && decide (n ≤ 1000000)
def okF (k sq : Int) (vs : List Int) : Bool := (decide (1 ≤ k) && decide (k ≤ 4)) && ((decide (0 ≤ sq) && decide (sq ≤ 99)) && (decide ((vs.length : Int) = many k) && vs.all sz))
def letter (k : Int) : UInt8 := if k = 1 then 83 else if k = 2 then 72 else if k = 3 then 70 else 80
def blanks (ns : List Int) : List UInt8 := (ns.map fun n => 32 :: Lib.itoa n).flatten
theorem blanks_nil : blanks [] = [] := rfl
theorem blanks_cons (n : Int) (ns : List Int) : blanks (n :: ns) = 32 :: (Lib.itoa n ++ blanks ns) := by simp [blanks]
def aheadF (k sq : Int) (vs : List Int) : List UInt8 := letter k :: (blanks (sq :: vs) ++ [32])
def wsum : Nat → List UInt8 → Nat
  | _, [] => 0
  | i, c :: l => (i + 1) * c.toNat + wsum (i + 1) l
def sumL (l : List UInt8) : Int := if 200 < l.length then -1 else ((wsum 0 l % 251 : Nat) : Int)
def behind (a : List UInt8) : List UInt8 := 42 :: (Lib.itoa (sumL a) ++ [10])
def showF (k sq : Int) (vs : List Int) : List UInt8 := if okF k sq vs = true then aheadF k sq vs ++ behind (aheadF k sq vs) else []
theorem wsum_snoc (l : List UInt8) (c : UInt8) : ∀ i, wsum i (l ++ [c]) = wsum i l + (i + l.length + 1) * c.toNat := by
  induction l with
  | nil => intro i; simp [wsum]
  | cons x l ih => intro i; simp only [List.cons_append, wsum, ih, List.length_cons]; rw [show i + 1 + l.length + 1 = i + (l.length + 1) + 1 by omega]; omega
theorem sumL_ge (l : List UInt8) : -1 ≤ sumL l := by unfold sumL; split <;> omega
theorem sumL_le (l : List UInt8) : sumL l ≤ 250 := by unfold sumL; split <;> omega
theorem okF_parts {k sq : Int} {vs : List Int} (h : okF k sq vs = true) : 1 ≤ k ∧ k ≤ 4 ∧ 0 ≤ sq ∧ sq ≤ 99 ∧ (vs.length : Int) = many k ∧ ∀ v ∈ vs, -1000000 ≤ v ∧ v ≤ 1000000 := by
  simp only [okF, Bool.and_eq_true, decide_eq_true_eq, List.all_eq_true, sz] at h
  exact ⟨h.1.1, h.1.2, h.2.1.1, h.2.1.2, h.2.2.1, h.2.2.2⟩
theorem many_le (k : Int) : many k ≤ 6 := by unfold many; repeat' split
                                             all_goals omega
theorem okF_short {k sq : Int} {vs : List Int} (h : okF k sq vs = true) : vs.length ≤ 6 := by
  have h1 := (okF_parts h).2.2.2.2.1
  have h2 := many_le k
  omega
theorem showF_ok {k sq : Int} {vs : List Int} (h : okF k sq vs = true) : showF k sq vs = aheadF k sq vs ++ behind (aheadF k sq vs) := by rw [showF, if_pos h]
theorem showF_not {k sq : Int} {vs : List Int} (h : okF k sq vs = false) : showF k sq vs = [] := by rw [showF, if_neg (by rw [h]; simp)]
theorem showF_cons {k sq : Int} {vs : List Int} (h : okF k sq vs = true) : showF k sq vs = letter k :: (blanks (sq :: vs) ++ 32 :: 42 :: (Lib.itoa (sumL (aheadF k sq vs)) ++ [10])) := by
  rw [showF_ok h]; simp [aheadF, behind]

/-- What is read of a text: the frame of which it is the text; none where there is none. -/
def IsRead (s : List UInt8) : Option (Int × Int × List Int) → Prop
  | some f => okF f.1 f.2.1 f.2.2 = true ∧ showF f.1 f.2.1 f.2.2 = s
  | none => ∀ k sq vs, okF k sq vs = true → showF k sq vs ≠ s
theorem isRead_ex (s : List UInt8) : ∃ r, IsRead s r := by
  by_cases h : ∃ f : Int × Int × List Int, okF f.1 f.2.1 f.2.2 = true ∧ showF f.1 f.2.1 f.2.2 = s
  · obtain ⟨f, hf⟩ := h; exact ⟨some f, hf⟩
  · exact ⟨none, fun k sq vs ho hs => h ⟨(k, sq, vs), ho, hs⟩⟩

theorem itoa_head (n : Int) : ∃ c r, Lib.itoa n = c :: r ∧ (isD c = true ∨ c = 45) := by
  unfold Lib.itoa
  split
  · exact ⟨_, _, rfl, Or.inr rfl⟩
  · obtain ⟨c, r, h, hc⟩ := dec_head n.toNat
    exact ⟨c, r, h, Or.inl hc⟩
theorem itoa_chars (n : Int) : ∀ c ∈ Lib.itoa n, isD c = true ∨ c = 45 := by
  unfold Lib.itoa
  split
  · intro c hc
    rcases List.mem_cons.1 hc with h | h
    · exact Or.inr h
    · exact Or.inl (dec_isD _ c h)
  · intro c hc; exact Or.inl (dec_isD _ c hc)
theorem blanks_stop (ns : List Int) (t : List UInt8) : Stops (blanks ns ++ 32 :: 42 :: t) := by
  cases ns with
  | nil => simp [blanks, Stops, isD]
  | cons n ns => simp [blanks_cons, Stops, isD]
/-- Of numbers between blanks, up to a star, there is one reading. -/
theorem blanks_inj : ∀ (ns ms : List Int) (t u : List UInt8), (∀ n ∈ ns, -1000000000 < n ∧ n < 1000000000) → (∀ n ∈ ms, -1000000000 < n ∧ n < 1000000000) →
    blanks ns ++ 32 :: 42 :: t = blanks ms ++ 32 :: 42 :: u → ns = ms ∧ t = u := by
  intro ns
  induction ns with
  | nil =>
    intro ms t u _ _ h
    cases ms with
    | nil => simpa [blanks] using h
    | cons m ms =>
      obtain ⟨c, r, hc, hd⟩ := itoa_head m
      rw [blanks_cons, hc] at h
      simp [blanks] at h
      obtain ⟨h1, _⟩ := h
      subst h1
      rcases hd with hd | hd <;> simp [isD] at hd
  | cons n ns ih =>
    intro ms t u h1 h2 h
    cases ms with
    | nil =>
      obtain ⟨c, r, hc, hd⟩ := itoa_head n
      rw [blanks_cons, hc] at h
      simp [blanks] at h
      obtain ⟨h1, _⟩ := h
      subst h1
      rcases hd with hd | hd <;> simp [isD] at hd
    | cons m ms =>
      simp only [blanks_cons, List.cons_append, List.cons.injEq, true_and, List.append_assoc] at h
      have e1 := numF_itoa n _ (blanks_stop ns t) (h1 n (by simp)).1 (h1 n (by simp)).2
      have e2 := numF_itoa m _ (blanks_stop ms u) (h2 m (by simp)).1 (h2 m (by simp)).2
      rw [h, e2] at e1
      simp at e1
      obtain ⟨rfl, e1⟩ := e1
      obtain ⟨rfl, rfl⟩ := ih ms t u (fun x hx => h1 x (by simp [hx])) (fun x hx => h2 x (by simp [hx])) e1.symm
      exact ⟨rfl, rfl⟩
theorem letter_inj {k k' : Int} (h1 : 1 ≤ k) (h2 : k ≤ 4) (h3 : 1 ≤ k') (h4 : k' ≤ 4) (h : letter k = letter k') : k = k' := by
  have e1 : k = 1 ∨ k = 2 ∨ k = 3 ∨ k = 4 := by omega
  have e2 : k' = 1 ∨ k' = 2 ∨ k' = 3 ∨ k' = 4 := by omega
  rcases e1 with rfl | rfl | rfl | rfl <;> rcases e2 with rfl | rfl | rfl | rfl <;> first | rfl | (simp [letter] at h)
theorem okF_small {k sq : Int} {vs : List Int} (h : okF k sq vs = true) : ∀ n ∈ sq :: vs, -1000000000 < n ∧ n < 1000000000 := by
  obtain ⟨_, _, h3, h4, _, h6⟩ := okF_parts h
  intro n hn
  rcases List.mem_cons.1 hn with rfl | hn
  · omega
  · have := h6 n hn; omega
theorem showF_inj {k sq k' sq' : Int} {vs vs' : List Int} (h : okF k sq vs = true) (h' : okF k' sq' vs' = true) (e : showF k sq vs = showF k' sq' vs') : k = k' ∧ sq = sq' ∧ vs = vs' := by
  rw [showF_cons h, showF_cons h'] at e
  simp only [List.cons.injEq] at e
  obtain ⟨e1, e2⟩ := e
  obtain ⟨e3, _⟩ := blanks_inj _ _ _ _ (okF_small h) (okF_small h') e2
  obtain ⟨a1, a2, _⟩ := okF_parts h
  obtain ⟨b1, b2, _⟩ := okF_parts h'
  simp at e3
  exact ⟨letter_inj a1 a2 b1 b2 e1, e3.1, e3.2⟩
theorem isRead_uniq {s : List UInt8} {r r' : Option (Int × Int × List Int)} (h : IsRead s r) (h' : IsRead s r') : r = r' := by
  match r, r', h, h' with
  | none, none, _, _ => rfl
  | none, some f, h, h' => exact absurd h'.2 (h _ _ _ h'.1)
  | some f, none, h, h' => exact absurd h.2 (h' _ _ _ h.1)
  | some (k, sq, vs), some (k', sq', vs'), h, h' =>
    obtain ⟨rfl, rfl, rfl⟩ := showF_inj h.1 h'.1 (h.2.trans h'.2.symm)
    rfl
end Go.Proofs.YtdikhdfpcipdbaaGreatDoor.txt

/- SumOf, the program's and the model's: each gives the sum of the plain text. -/
namespace Go.Proofs.YtdikhdfpcipdbaaGreatDoor.frm
open Go.ChangeShapes Go.WideShapes Go.ChangeAt Go.RowKit
open Go.Proofs.YtdikhdfpcipdbaaGreatDoor.txt
set_option linter.unusedVariables false

/-- The text of these bytes. -/
abbrev str (l : List UInt8) : Value := .string ⟨l.toArray⟩
theorem at_str (l : List UInt8) (i : Nat) (h : i < (ByteArray.mk l.toArray).size) : (ByteArray.mk l.toArray)[i]'h = l.getD i 0 := by
  have hi : i < l.length := by simpa [ByteArray.size] using h
  show l.toArray[i]'_ = _
  simp [List.getD, hi]
theorem wsum_take (l : List UInt8) (i : Nat) (h : i < l.length) : wsum 0 (l.take (i + 1)) = wsum 0 (l.take i) + (i + 1) * (l.getD i 0).toNat := by
  have e : l.take (i + 1) = l.take i ++ [l.getD i 0] := by rw [List.take_add_one]; simp [List.getD, h]
  rw [e, wsum_snoc]; simp [List.length_take, Nat.min_eq_left (Nat.le_of_lt h)]
theorem wsum_bd (l : List UInt8) : ∀ i, i ≤ 200 → i ≤ l.length → wsum 0 (l.take i) ≤ i * 51200 := by
  intro i
  induction i with
  | zero => intros; simp [wsum]
  | succ i ih =>
    intro h1 h2
    have := ih (by omega) (by omega)
    rw [wsum_take l i (by omega)]
    have h3 := UInt8.toNat_lt (l.getD i 0)
    have h4 : (i + 1) * (l.getD i 0).toNat ≤ 200 * 256 := Nat.mul_le_mul (by omega) (by omega)
    omega

theorem w64 (x : Int) (h1 : -9223372036854775808 ≤ x) (h2 : x ≤ 9223372036854775807) : wrap64 x = x := by unfold wrap64; omega
theorem sum_step (l : List UInt8) (k : Nat) (h1 : k < l.length) (h2 : l.length ≤ 200) (h : k < (ByteArray.mk l.toArray).size) :
    wrap64 (((wsum 0 (l.take k) : Nat) : Int) + wrap64 (((k : Int) + 1) * wrap64 (((ByteArray.mk l.toArray)[k]'h).toNat : Int))) = ((wsum 0 (l.take (k + 1)) : Nat) : Int) := by
  rw [at_str, wsum_take l k h1]
  have hb := wsum_bd l k (by omega) (by omega)
  have h3 := UInt8.toNat_lt (l.getD k 0)
  have h4 : (k + 1) * (l.getD k 0).toNat ≤ 200 * 256 := Nat.mul_le_mul (by omega) (by omega)
  have e : ((k : Int) + 1) * ((l.getD k 0).toNat : Int) = (((k + 1) * (l.getD k 0).toNat : Nat) : Int) := by simp
  rw [w64 ((l.getD k 0).toNat : Int) (by omega) (by omega), e]
  generalize (k + 1) * (l.getD k 0).toNat = x at *
  rw [w64 (x : Int) (by omega) (by omega), w64 _ (by omega) (by omega)]
  simp
theorem sum_mod (l : List UInt8) (k : Nat) (h1 : k < l.length) (h2 : l.length ≤ 200) (h : k < (ByteArray.mk l.toArray).size) :
    (wrap64 (((wsum 0 (l.take k) : Nat) : Int) % 251 + wrap64 (((k : Int) + 1) * wrap64 (((ByteArray.mk l.toArray)[k]'h).toNat : Int)))).tmod 251 = ((wsum 0 (l.take (k + 1)) % 251 : Nat) : Int) := by
  rw [at_str, wsum_take l k h1]
  have h3 := UInt8.toNat_lt (l.getD k 0)
  have h4 : (k + 1) * (l.getD k 0).toNat ≤ 200 * 256 := Nat.mul_le_mul (by omega) (by omega)
  have e : ((k : Int) + 1) * ((l.getD k 0).toNat : Int) = (((k + 1) * (l.getD k 0).toNat : Nat) : Int) := by simp
  rw [w64 ((l.getD k 0).toNat : Int) (by omega) (by omega), e]
  generalize (k + 1) * (l.getD k 0).toNat = x at *
  rw [w64 (x : Int) (by omega) (by omega), w64 _ (by omega) (by omega)]
  rw [Int.tmod_eq_emod_of_nonneg (by omega)]
  omega

set_option maxHeartbeats 1000000 in
theorem specSum (l : List UInt8) (w : World) (hl : l.length ≤ maxLen) :
    Calls Tryz.prog 183 #[str l] w fun e w' => e = .returned (.int .i64 (sumL l)) ∧ w = w' := by
  have hm : l.length ≤ 9223372036854775807 := by unfold maxLen at hl; exact hl
  clear hl
  by_cases h2 : 200 < l.length
  · go_enter Tryz.func183, Tryz.ntmps183
    go_wp2
    go_ret
    exact ⟨by rw [sumL, if_pos h2]; rfl, rfl⟩
  · go_enter Tryz.func183, Tryz.ntmps183
    go_wp2
    go_loopw [3, 4] (fun n i wr => wr = w ∧ ∃ k : Nat, k ≤ l.length ∧ i = .int .i64 k ∧ n = .int .i64 ((wsum 0 (l.take k) % 251 : Nat) : Int)) (fun n i _ => l.length - (intOf i).toNat)
    case atStart => exact ⟨rfl, 0, Nat.zero_le _, rfl, rfl⟩
    case round =>
      obtain ⟨rfl, k, hk, rfl, rfl⟩ := hrel
      by_cases hlt : k < l.length
      · go_wp2
        go_roundw
        case rel => exact ⟨trivial, k + 1, by omega, by go_num, by rw [sum_mod l k hlt (by omega)]⟩
        case measure => simp [intOf]; omega
      · obtain rfl : k = l.length := by omega
        go_wp2
        go_ret
        refine ⟨?_, rfl⟩
        rw [sumL, if_neg h2, List.take_length] at *
        rfl
end Go.Proofs.YtdikhdfpcipdbaaGreatDoor.frm

/- FrameOk, the program's and the model's, and what they call. -/
namespace Go.Proofs.YtdikhdfpcipdbaaGreatDoor.frm
open Go.ChangeShapes Go.WideShapes Go.ChangeAt Go.RowKit
open Go.Proofs.YtdikhdfpcipdbaaGreatDoor.nums Go.Proofs.YtdikhdfpcipdbaaGreatDoor.mem Go.Proofs.YtdikhdfpcipdbaaGreatDoor.txt Go.Proofs.YtdikhdfpcipdbaaGreatDoor.fix
open Go.Proofs.YtdikhdfpcipdbaaGreatDoor.tab (Ret quiet_w wpList_make_has)
set_option linter.unusedVariables false

/-- The slice at a holds these numbers, each in a cell of a block of the world. -/
def Ints (w : World) (a : Option Addr) (l : List Int) : Prop :=
  ∀ k, k < l.length → ∃ x : Addr, a = some x ∧ x.block < w.heap.size ∧ w.cell? (x.add k) = some (.int .i64 (nth l k))
theorem Ints.kept {w w' : World} {a : Option Addr} {l : List Int} (h : Ints w a l) (hg : w.grownBy w' none) : Ints w' a l := by
  intro k hk
  obtain ⟨x, e, hb, h1⟩ := h k hk
  refine ⟨x, e, Nat.lt_of_lt_of_le hb hg.size, ?_⟩
  rw [← h1]; exact World.cell?_of_block (hg.block _ (by rw [block_add]; omega) (by simp))
theorem Ints.grown {w w' : World} {a : Option Addr} {l : List Int} {row : Option Nat} (h : Ints w a l) (hg : w.grownBy w' row) (hn : ∀ x : Addr, a = some x → some x.block ≠ row) : Ints w' a l := by
  intro k hk
  obtain ⟨x, e, hb, h1⟩ := h k hk
  refine ⟨x, e, Nat.lt_of_lt_of_le hb hg.size, ?_⟩
  rw [← h1]; exact World.cell?_of_block (hg.block _ (by rw [block_add]; omega) (by rw [block_add]; exact hn x e))
theorem Ints.set {w : World} {a : Option Addr} {l : List Int} (h : Ints w a l) (g i : Nat) (u : Value) (hn : ∀ x : Addr, a = some x → x.block ≠ g) : Ints (w.setCell ⟨g, i, none⟩ u) a l :=
  h.grown (gr_set (gr_refl w (some g)) i u) (fun x e he => hn x e (by injection he))
theorem Ints.drewN {w : World} {a : Option Addr} {l : List Int} (h : Ints w a l) (n : Nat) : Ints (w.drewN n) a l := h
theorem Ints.nil (w : World) (a : Option Addr) : Ints w a [] := fun k hk => by simp at hk
abbrev fr (k sq : Int) (a : Option Addr) (n cap : Nat) : Value := .agg #[.int .i64 k, .int .i64 sq, .slice a n cap]
theorem three {w : World} {g : Nat} {t : TypeId} {a b c : Value} (h : Has w g t #[a, b, c]) : w.cell? ⟨g, 0, none⟩ = some a ∧ w.cell? ⟨g, 1, none⟩ = some b ∧ w.cell? ⟨g, 2, none⟩ = some c ∧ w.frozen? ⟨g, 0, none⟩ = false ∧ w.frozen? ⟨g, 1, none⟩ = false ∧ w.frozen? ⟨g, 2, none⟩ = false :=
  ⟨h.cell 0, h.cell 1, h.cell 2, h.frozen 0, h.frozen 1, h.frozen 2⟩

theorem set3 {w : World} {g : Nat} {t : TypeId} {a b c : Value} (h : Has w g t #[a, b, c]) (a' b' c' : Value) : Has (((w.setCell ⟨g, 0, none⟩ a').setCell ⟨g, 1, none⟩ b').setCell ⟨g, 2, none⟩ c') g t #[a', b', c'] := ((h.put 0 a' rfl).put 1 b' rfl).put 2 c' rfl
theorem has_other {w : World} {g g' : Nat} {t : TypeId} {cs : Array Value} (h : Has w g t cs) (hn : g ≠ g') (i : Nat) (u : Value) : Has (w.setCell ⟨g', i, none⟩ u) g t cs := h.grown (gr_set (gr_refl w (some g')) i u) (fun e => hn (by injection e))
theorem all_step (l : List Int) (k : Nat) (h : k < l.length) : (l.take (k + 1)).all sz = ((l.take k).all sz && sz (nth l k)) := by
  rw [nth_take h]; simp
theorem all_not (l : List Int) (k : Nat) (h : k < l.length) (hs : sz (nth l k) = false) : l.all sz = false := by
  rw [List.all_eq_false]
  exact ⟨nth l k, nth_mem h, by rw [hs]; simp⟩

set_option maxHeartbeats 1000000 in
theorem specAll (a : Option Addr) (cap : Nat) (l : List Int) (n : Int) (w : World) (h : Ints w a l) (hl : l.length ≤ maxLen) :
    Calls Tryz.prog 53 #[.slice a l.length cap, .int .i64 n, .int .i64 (-1000000), .int .i64 1000000] w fun e w' => e = .returned (.bool (decide ((l.length : Int) = n) && l.all sz)) ∧ w = w' := by
  have hm : l.length ≤ 9223372036854775807 := by unfold maxLen at hl; exact hl
  clear hl
  go_enter Tryz.func53, Tryz.ntmps53
  go_wp2_with fail
  go_loopw [9] (fun i wr => wr = w ∧ ∃ k : Nat, k ≤ l.length ∧ i = .int .i64 k ∧ Hid ((l.take k).all sz = true)) (fun i _ => l.length - (intOf i).toNat)
  case atStart => exact ⟨rfl, 0, Nat.zero_le _, rfl, Lib.hid rfl⟩
  case round =>
    obtain ⟨rfl, k, hk, rfl, hs⟩ := hrel
    by_cases hlt : k < l.length
    · obtain ⟨x, rfl, hb, cx⟩ := h k hlt
      cases hz : sz (nth l k)
      · have hz' : inb (nth l k) (-1000000) 1000000 = false := hz
        go_wp2_with fail
        refine (specIn _ _ _ _).mono ?_
        rintro e w' ⟨rfl, rfl⟩
        go_wp2_with fail
        go_ret
        exact ⟨by rw [all_not l k hlt hz]; simp, rfl⟩
      · have hz' : inb (nth l k) (-1000000) 1000000 = true := hz
        go_wp2_with fail
        refine (specIn _ _ _ _).mono ?_
        rintro e w' ⟨rfl, rfl⟩
        go_wp2_with fail
        go_roundw
        case rel => exact ⟨trivial, k + 1, by omega, by go_num, Lib.hid (by rw [all_step l k hlt, hs.out, hz]; rfl)⟩
        case measure => simp [intOf]; omega
    · obtain rfl : k = l.length := by omega
      go_wp2_with fail
      go_ret
      refine ⟨?_, rfl⟩
      have := hs.out
      rw [List.take_length] at this
      rw [this, Bool.and_true]; rfl

set_option maxHeartbeats 1000000 in
theorem implAll (a : Option Addr) (cap : Nat) (l : List Int) (w : World) (h : Ints w a l) (hl : l.length ≤ maxLen) :
    Calls Tryz.prog 93 #[.slice a l.length cap] w fun e w' => e = .returned (.bool (l.all sz)) ∧ w = w' := by
  have hm : l.length ≤ 9223372036854775807 := by unfold maxLen at hl; exact hl
  clear hl
  go_enter Tryz.func93, Tryz.ntmps93
  go_wp2_with fail
  go_loopw [7] (fun i wr => wr = w ∧ ∃ k : Nat, k ≤ l.length ∧ i = .int .i64 k ∧ Hid ((l.take k).all sz = true)) (fun i _ => l.length - (intOf i).toNat)
  case atStart => exact ⟨rfl, 0, Nat.zero_le _, rfl, Lib.hid rfl⟩
  case round =>
    obtain ⟨rfl, k, hk, rfl, hs⟩ := hrel
    by_cases hlt : k < l.length
    · obtain ⟨x, rfl, hb, cx⟩ := h k hlt
      cases hz : sz (nth l k)
      · have hz' : inb (nth l k) (-1000000) 1000000 = false := hz
        go_wp2_with fail
        refine (implSizeOk _ _).mono ?_
        rintro e w' ⟨rfl, rfl⟩
        go_wp2_with fail
        go_ret
        exact ⟨by rw [all_not l k hlt hz]; rfl, rfl⟩
      · have hz' : inb (nth l k) (-1000000) 1000000 = true := hz
        go_wp2_with fail
        refine (implSizeOk _ _).mono ?_
        rintro e w' ⟨rfl, rfl⟩
        go_wp2_with fail
        go_roundw
        case rel => exact ⟨trivial, k + 1, by omega, by go_num, Lib.hid (by rw [all_step l k hlt, hs.out, hz]; rfl)⟩
        case measure => simp [intOf]; omega
    · obtain rfl : k = l.length := by omega
      go_wp2_with fail
      go_ret
      refine ⟨?_, rfl⟩
      have := hs.out
      rw [List.take_length] at this
      rw [this]; rfl

theorem specMany (k : Int) (w : World) : Calls Tryz.prog 90 #[.int .i64 k] w (Ret (.int .i64 (many k)) w) := by
  by_cases h : 1 ≤ k ∧ k ≤ 4
  · have hi : inb k 1 4 = true := by unfold inb; simp; omega
    have hk : k = 1 ∨ k = 2 ∨ k = 3 ∨ k = 4 := by omega
    clear h
    go_enter Tryz.func90, Tryz.ntmps90
    go_wp2_with fail
    refine (specIn _ _ _ _).mono ?_
    rintro e w' ⟨rfl, rfl⟩
    rcases hk with rfl | rfl | rfl | rfl
    all_goals go_wp2_with fail
    all_goals go_ret
    all_goals exact ⟨rfl, World.grownBy_alloc _ _ _⟩
  · have hi : inb k 1 4 = false := by unfold inb; simp; omega
    have hm : many k = -1 := by unfold many; rw [if_neg (by omega), if_neg (by omega), if_neg (by omega), if_neg (by omega)]
    rw [hm]
    go_enter Tryz.func90, Tryz.ntmps90
    go_wp2_with fail
    refine (specIn _ _ _ _).mono ?_
    rintro e w' ⟨rfl, rfl⟩
    go_wp2_with fail
    go_ret
    exact ⟨rfl, gr_refl _ _⟩

theorem implKind (k : Int) (w : World) : Calls Tryz.prog 92 #[.int .i64 k] w fun e w' => e = .returned (.bool (decide (1 ≤ k) && decide (k ≤ 4))) ∧ w = w' := by
  go_enter Tryz.func92, Tryz.ntmps92
  go_wp2
  all_goals go_ret
  all_goals exact ⟨ret_bool (by simp <;> omega), rfl⟩
theorem implSeq (k : Int) (w : World) : Calls Tryz.prog 84 #[.int .i64 k] w fun e w' => e = .returned (.bool (decide (0 ≤ k) && decide (k ≤ 99))) ∧ w = w' := by
  go_enter Tryz.func84, Tryz.ntmps84
  go_wp2
  all_goals go_ret
  all_goals exact ⟨ret_bool (by simp <;> omega), rfl⟩

theorem rg_ret {P : Program} {f : FuncId} {args : Array Value} {w : World} {d : Nat} {os : Array Obj} {v : Value}
    (h : Calls P f args (Go.Sort.grow (redrawn w d) os) (Ret v (Go.Sort.grow (redrawn w d) os))) : Calls P f args (Go.Sort.grow (redrawn w d) os) fun e w'' => e = .returned v ∧ ∃ p : Regrown, w'' = Go.Sort.grow (redrawn w p.d) p.os :=
  Calls.regrown_of (h.mono fun _ _ ⟨he, hg⟩ => ⟨he, below_of_none hg⟩)
theorem rg_same {P : Program} {f : FuncId} {args : Array Value} {w : World} {d : Nat} {os : Array Obj} {v : Value}
    (h : Calls P f args (Go.Sort.grow (redrawn w d) os) fun e w' => e = .returned v ∧ Go.Sort.grow (redrawn w d) os = w') : Calls P f args (Go.Sort.grow (redrawn w d) os) fun e w'' => e = .returned v ∧ ∃ p : Regrown, w'' = Go.Sort.grow (redrawn w p.d) p.os :=
  h.mono fun _ _ ⟨he, hm⟩ => ⟨he, ⟨d, os⟩, hm.symm⟩
theorem gr_rg (w : World) (d : Nat) (os : Array Obj) : w.grownBy (Go.Sort.grow (redrawn w d) os) none := gr_of_below (below_regrown w d os) none

/-- The program's table of how many values a kind has. -/
def Vals (w : World) : Prop := 0 < w.heap.size ∧ ∀ i, i < 5 → w.cell? ⟨0, i, none⟩ = some (.int .i64 (nth [0, 3, 2, 6, 2] i))
theorem Vals.kept {w w' : World} (h : Vals w) (hg : w.grownBy w' none) : Vals w' :=
  ⟨Nat.lt_of_lt_of_le h.1 hg.size, fun i hi => (World.cell?_of_block (hg.block 0 h.1 (by simp))).trans (h.2 i hi)⟩
theorem many_tab {k : Int} (h1 : 1 ≤ k) (h2 : k ≤ 4) : nth [0, 3, 2, 6, 2] k.toNat = many k := by
  have hk : k = 1 ∨ k = 2 ∨ k = 3 ∨ k = 4 := by omega
  rcases hk with rfl | rfl | rfl | rfl <;> rfl

end Go.Proofs.YtdikhdfpcipdbaaGreatDoor.frm

