/- Blended of both sides. What is wished for, and what the fans and the push are to have: of the model, at right facts. Chapter 16 on plain brains: what one tick makes stays right. Chapter 17 of the model: a body, and how it moves. -/
import Derived.Test.YtdikhdfpcipdbaaGreatDoorG40
import Derived.Test.YtdikhdfpcipdbaaGreatDoorG31
import Derived.Test.YtdikhdfpcipdbaaGreatDoorG13
import Derived.Deep.DeepCutAuto
import Derived.Test.YtdikhdfpcipdbaaGreatDoorG32
import Derived.Test.YtdikhdfpcipdbaaGreatDoorG33
import Derived.Test.YtdikhdfpcipdbaaGreatDoorG34
import Derived.Test.YtdikhdfpcipdbaaGreatDoorG17
import Derived.Test.YtdikhdfpcipdbaaGreatDoorG15
import Derived.Test.YtdikhdfpcipdbaaGreatDoorG21
import Derived.Test.YtdikhdfpcipdbaaGreatDoorG35
import Derived.Test.YtdikhdfpcipdbaaGreatDoorG36
import Derived.Test.YtdikhdfpcipdbaaGreatDoorG23
import Derived.Test.YtdikhdfpcipdbaaGreatDoorG1
/- Blended of both sides. -/
namespace Go.Proofs.YtdikhdfpcipdbaaGreatDoor.bl
open Go.ChangeShapes Go.WideShapes Go.ChangeAt Go.RowKit
open Go.Proofs.YtdikhdfpcipdbaaGreatDoor.nums Go.Proofs.YtdikhdfpcipdbaaGreatDoor.mem
open Go.Proofs.YtdikhdfpcipdbaaGreatDoor.sh (dem three set3 okD RetD)
open Go.Proofs.YtdikhdfpcipdbaaGreatDoor.tab (Ret quiet_w)
open Go.Proofs.YtdikhdfpcipdbaaGreatDoor.qt (region_below_tail rg_ret rg_same gr_rg)
set_option linter.unusedVariables false

/-- The demand and the speed are sizes. -/
def okS (l r p s : Int) : Bool := okD l r p && inb s (-1000000) 1000000
/-- What is left of v. -/
def bl (l r p s v : Int) : Int := if okS l r p s = true then cutBy s v else 0
theorem bl_no {l r p s : Int} (h : okS l r p s = false) (v : Int) : bl l r p s v = 0 := by unfold bl; rw [h]; rfl
theorem bl_yes {l r p s : Int} (h : okS l r p s = true) (v : Int) : bl l r p s v = cutBy s v := if_pos h
/-- What is blended comes back. -/
def RetB (l r p s : Int) (w : World) (e : Ending) (w' : World) : Prop := RetD (bl l r p s l) (bl l r p s r) (bl l r p s p) w e w'

set_option maxHeartbeats 4000000 in
theorem specBlended (l r p s : Int) (w : World) : Calls Tryz.prog 178 #[dem l r p, .int .i64 s] w (RetB l r p s w) := by
  have A0 := (Has.fresh w 234 #[.int .i64 l, .int .i64 r, .int .i64 p]).alloc (Obj.cells #[.int .i64 0, .int .i64 0, .int .i64 0] 234)
  have R0 := Has.fresh (w.alloc (Obj.cells #[.int .i64 l, .int .i64 r, .int .i64 p] 234)) 234 #[.int .i64 0, .int .i64 0, .int .i64 0]
  have g0 := gr_alloc (World.grownBy_alloc w (Obj.cells #[.int .i64 l, .int .i64 r, .int .i64 p] 234) none) (Obj.cells #[.int .i64 0, .int .i64 0, .int .i64 0] 234)
  have cD := sh.specSizes l r p
  have cZ := fix.specSizeOk s
  have hn := bl_no (l := l) (r := r) (p := p) (s := s)
  have hy := bl_yes (l := l) (r := r) (p := p) (s := s)
  simp only [World.size_alloc] at R0
  unfold okS at hn hy
  cases h1 : okD l r p
  · rw [h1] at cD hn
    unfold RetB
    rw [hn rfl, hn rfl, hn rfl]
    clear hn hy cZ h1
    go_enter Tryz.func178, Tryz.ntmps178
    go_wp2_with fail
    refine (cD _).mono ?_
    rintro e w1 ⟨rfl, g1⟩
    have R1 := R0.grown g1 (by simp)
    obtain ⟨r0, r1, r2, f0, f1, f2⟩ := three R1
    go_wp2_with fail
    obtain ⟨k0, k1, k2, _, _, _⟩ := three (set3 R1 (.int .i64 0) (.int .i64 0) (.int .i64 0))
    exact bodyPost_ret (v := dem 0 0 0) (by simp [results, Tryz.results178, go_sem, k0, k1, k2]) rfl ⟨rfl, gr_new (gr_new (gr_new (gr_trans g0 g1) (by omega) _ _) (by omega) _ _) (by omega) _ _⟩
  · rw [h1] at cD hn hy
    cases h2 : inb s (-1000000) 1000000
    · rw [h2] at cZ hn
      unfold RetB
      rw [hn rfl, hn rfl, hn rfl]
      clear hn hy h1 h2
      go_enter Tryz.func178, Tryz.ntmps178
      go_wp2_with fail
      refine (cD _).mono ?_
      rintro e w1 ⟨rfl, g1⟩
      have R1 := R0.grown g1 (by simp)
      obtain ⟨r0, r1, r2, f0, f1, f2⟩ := three R1
      go_wp2_with (go_at_call 78; refine (cZ _).mono ?_; rintro e w' ⟨rfl, rfl⟩)
      obtain ⟨k0, k1, k2, _, _, _⟩ := three (set3 R1 (.int .i64 0) (.int .i64 0) (.int .i64 0))
      exact bodyPost_ret (v := dem 0 0 0) (by simp [results, Tryz.results178, go_sem, k0, k1, k2]) rfl ⟨rfl, gr_new (gr_new (gr_new (gr_trans g0 g1) (by omega) _ _) (by omega) _ _) (by omega) _ _⟩
    · rw [h2] at cZ hy
      unfold RetB
      rw [hy rfl, hy rfl, hy rfl]
      clear hn hy h1 h2
      have cL : ∀ W, Calls Tryz.prog 169 #[.int .i64 l, .int .i64 (lp s), .int .i64 1000] W fun e w' => e = .returned (.int .i64 (cutBy s l)) ∧ W = w' := fun W => fix.specPart l (lp s) 1000 W
      have cR : ∀ W, Calls Tryz.prog 169 #[.int .i64 r, .int .i64 (lp s), .int .i64 1000] W fun e w' => e = .returned (.int .i64 (cutBy s r)) ∧ W = w' := fun W => fix.specPart r (lp s) 1000 W
      have cP : ∀ W, Calls Tryz.prog 169 #[.int .i64 p, .int .i64 (lp s), .int .i64 1000] W fun e w' => e = .returned (.int .i64 (cutBy s p)) ∧ W = w' := fun W => fix.specPart p (lp s) 1000 W
      have cT := specLiftPart s
      generalize lp s = x at *
      generalize cutBy s l = L at *
      generalize cutBy s r = R at *
      generalize cutBy s p = M at *
      go_enter Tryz.func178, Tryz.ntmps178
      go_wp2_with fail
      refine (cD _).mono ?_
      rintro e w1 ⟨rfl, g1⟩
      replace A0 := A0.grown g1 (by simp)
      replace R0 := R0.grown g1 (by simp)
      replace g0 := gr_trans g0 g1
      clear g1
      go_wp2_with (go_at_call 78; refine (cZ _).mono ?_; rintro e w' ⟨rfl, rfl⟩)
      refine (cT _).mono ?_
      rintro e w2 ⟨rfl, g1⟩
      replace A0 := A0.grown g1 (by simp)
      replace R0 := R0.grown g1 (by simp)
      replace g0 := gr_trans g0 g1
      clear g1 cD cZ cT
      obtain ⟨b0, b1, b2, _, _, _⟩ := three A0
      have q0 : ∀ d os, (Go.Sort.grow (redrawn w2 d) os).cell? ⟨w.heap.size, 0, none⟩ = some (.int .i64 l) := cell_regrown b0
      have q1 : ∀ d os, (Go.Sort.grow (redrawn w2 d) os).cell? ⟨w.heap.size, 1, none⟩ = some (.int .i64 r) := cell_regrown b1
      have q2 : ∀ d os, (Go.Sort.grow (redrawn w2 d) os).cell? ⟨w.heap.size, 2, none⟩ = some (.int .i64 p) := cell_regrown b2
      go_upto_region 4 with fail
      refine region_below_tail 13 (by kernel_rfl) (by kernel_rfl) ?_
      simp only [List.take_succ_cons, List.take_zero, List.drop_succ_cons, List.drop_zero]
      repeat (quiet_step (first | (go_at_call 169; with_reducible exact rg_same (cL _)) | (go_at_call 169; with_reducible exact rg_same (cR _)) | (go_at_call 169; with_reducible exact rg_same (cP _))))
      refine wpQuiet_nil ?_
      intro _ hw'
      obtain ⟨⟨dq, osq⟩, hw''⟩ := hw'
      subst hw''
      have gq := gr_rg w2 dq osq
      replace R0 := R0.grown gq (by simp)
      replace g0 := gr_trans g0 gq
      clear gq q0 q1 q2 b0 b1 b2 A0 cL cR cP
      generalize Go.Sort.grow (redrawn w2 dq) osq = w3 at *
      obtain ⟨r0, r1, r2, f0, f1, f2⟩ := three R0
      go_wp2_with fail
      obtain ⟨k0, k1, k2, _, _, _⟩ := three (set3 R0 (.int .i64 L) (.int .i64 R) (.int .i64 M))
      exact bodyPost_ret (v := dem L R M) (by simp [results, Tryz.results178, go_sem, k0, k1, k2]) rfl ⟨rfl, gr_new (gr_new (gr_new g0 (by omega) _ _) (by omega) _ _) (by omega) _ _⟩
end Go.Proofs.YtdikhdfpcipdbaaGreatDoor.bl

/- What is wished for, and what the fans and the push are to have: of the model, at right facts. -/
namespace Go.Proofs.YtdikhdfpcipdbaaGreatDoor.br
open Go.ChangeShapes Go.WideShapes Go.ChangeAt Go.RowKit
open Go.Proofs.YtdikhdfpcipdbaaGreatDoor.nums Go.Proofs.YtdikhdfpcipdbaaGreatDoor.mem
open Go.Proofs.YtdikhdfpcipdbaaGreatDoor.tab (Ret wpList_make_has)
open Go.Proofs.YtdikhdfpcipdbaaGreatDoor.md (Fx fac cs8 factsOk inAir)
open Go.Proofs.YtdikhdfpcipdbaaGreatDoor.sh (dem okD shared RetRow)
open Go.Proofs.YtdikhdfpcipdbaaGreatDoor.il (nth Ints Own RetI IRow vals_snoc row_base gr_own)
set_option linter.unusedVariables false

def lift (f : Fx) : Int := if f.ho = true then btw (500 - 2 * (f.h - 400)) 200 800 else 500
def wish (f : Fx) : Int := if (cas.staysIn f.c).length = 0 then 0 else (lift f * 6).tdiv ((cas.staysIn f.c).length : Int)
theorem lift_in (f : Fx) : 200 ≤ lift f ∧ lift f ≤ 800 := by
  unfold lift
  split
  · unfold btw; omega
  · omega
theorem facts_in {f : Fx} (h : factsOk f = true) : (-1000000 ≤ f.sp ∧ f.sp ≤ 1000000) ∧ (-1000000 ≤ f.h ∧ f.h ≤ 1000000) ∧ cas.caseOk f.c = true ∧ (0 ≤ f.wn ∧ f.wn ≤ 2) ∧ (0 ≤ f.tm ∧ f.tm ≤ 1000) := by
  unfold factsOk at h
  simp only [Bool.and_eq_true] at h
  obtain ⟨h1, h2, h3, h4, h5⟩ := h
  unfold inb at h1 h2 h4 h5
  simp at h1 h2 h4 h5
  exact ⟨h1, h2, h3, h4, h5⟩

set_option maxRecDepth 100000 in
set_option maxHeartbeats 2000000 in
theorem specWish (f : Fx) (w : World) (hf : factsOk f = true) : Calls Tryz.prog 177 #[fac f] w (sh.RetD (wish f) 0 0 w) := by
  obtain ⟨_, hh, _, _, _⟩ := facts_in hf
  have K := (Has.fresh w 35 (cs8 f)).alloc (Obj.cells #[.int .i64 0, .int .i64 0, .int .i64 0] 234)
  have R := Has.fresh (w.alloc (Obj.cells (cs8 f) 35)) 234 #[.int .i64 0, .int .i64 0, .int .i64 0]
  have g0 := gr_alloc (World.grownBy_alloc w (Obj.cells (cs8 f) 35) none) (Obj.cells #[.int .i64 0, .int .i64 0, .int .i64 0] 234)
  simp only [World.size_alloc] at R
  have hl := lift_in f
  have cB := fun W => fix.specBetween (500 - 2 * (f.h - 400)) 200 800 W
  have cS := fun W => cas.specStaysIn f.c W
  have hN6 : (cas.staysIn f.c).length ≤ 6 := cas.in_len f.c
  obtain ⟨L, hL⟩ : ∃ L, lift f = L := ⟨_, rfl⟩
  obtain ⟨X, hX⟩ : ∃ X, wish f = X := ⟨_, rfl⟩
  have hW := Lib.hid hX
  rw [hX]
  unfold wish at hX
  rw [hL] at hX hl
  obtain ⟨c0, c1, c2, c3, c4, c5, c6, c7⟩ := md.eight K
  generalize cas.staysIn f.c = N at *
  replace hX := Lib.hid hX
  clear hf
  cases hho : f.ho
  · have e : L = 500 := by rw [← hL]; unfold lift; rw [hho]; rfl
    rw [hho] at c3
    clear hho hL cB
    go_enter Tryz.func177, Tryz.ntmps177
    go_wp2_with fail
    refine (cS _).mono ?_
    rintro e w1 ⟨a, cap, rfl, r, o, _⟩
    replace K := K.grown r (by simp)
    replace R := R.grown r (by simp)
    replace g0 := gr_trans g0 r
    obtain ⟨d0, d1, d2, e0, e1, e2⟩ := rd.three R
    clear c0 c1 c2 c3 c4 c5 c6 c7 r
    by_cases hN : N.length = 0
    · have n0 : ((N.length : Int) == 0) = true := by simp [hN]
      have n0' : decide ((N.length : Int) = 0) = true := by simp [hN]
      have e : X = 0 := by rw [← hX.out, if_pos hN]
      subst e
      clear hN
      go_wp2_with fail
      obtain ⟨t0, t1, t2, _, _, _⟩ := rd.three (rd.set3 R (.int .i64 0) (.int .i64 0) (.int .i64 0))
      exact bodyPost_ret (v := dem 0 0 0) (by simp [results, Tryz.results177, go_sem, t0, t1, t2]) rfl ⟨rfl, gr_new (gr_new (gr_new g0 (by omega) _ _) (by omega) _ _) (by omega) _ _⟩
    · have n0 : ((N.length : Int) == 0) = false := beq_eq_false_iff_ne.2 (by omega)
      have n0' : decide ((N.length : Int) = 0) = false := decide_eq_false (by omega)
      have e := hX.out
      rw [if_neg hN] at e
      have hn1 : (1 : Int) ≤ (N.length : Int) := by omega
      have hn2 : (N.length : Int) ≤ 6 := by omega
      have hnz : (N.length : Int) ≠ 0 := by omega
      have b1 : 0 ≤ (L * 6).tdiv (N.length : Int) ∧ (L * 6).tdiv (N.length : Int) ≤ 4800 := by
        have h0 : 0 ≤ L * 6 := by omega
        rw [Int.tdiv_eq_ediv_of_nonneg h0]
        constructor
        · exact Int.ediv_nonneg h0 (by omega)
        · exact Int.le_trans (Int.ediv_le_self _ h0) (by omega)
      rw [e] at b1
      rw [show L * 6 = 3000 by omega] at e
      clear hN
      go_wp2_with fail
      obtain ⟨t0, t1, t2, _, _, _⟩ := rd.three (rd.set3 R (.int .i64 X) (.int .i64 0) (.int .i64 0))
      exact bodyPost_ret (v := dem X 0 0) (by simp [results, Tryz.results177, go_sem, t0, t1, t2]) rfl ⟨rfl, gr_new (gr_new (gr_new g0 (by omega) _ _) (by omega) _ _) (by omega) _ _⟩
  · have e : L = btw (500 - 2 * (f.h - 400)) 200 800 := by rw [← hL]; unfold lift; rw [hho]; rfl
    rw [hho] at c3
    rw [← e] at cB
    clear hho hL e
    go_enter Tryz.func177, Tryz.ntmps177
    go_wp2_with fail
    refine (cB _).mono ?_
    rintro e w1 ⟨rfl, rfl⟩
    go_wp2_with fail
    refine (cS _).mono ?_
    rintro e w1 ⟨a, cap, rfl, r, o, _⟩
    replace K := K.grown r (by simp)
    replace R := R.grown r (by simp)
    replace g0 := gr_trans g0 r
    obtain ⟨d0, d1, d2, e0, e1, e2⟩ := rd.three R
    clear c0 c1 c2 c3 c4 c5 c6 c7 r
    by_cases hN : N.length = 0
    · have n0 : ((N.length : Int) == 0) = true := by simp [hN]
      have n0' : decide ((N.length : Int) = 0) = true := by simp [hN]
      have e : X = 0 := by rw [← hX.out, if_pos hN]
      subst e
      clear hN
      go_wp2_with fail
      obtain ⟨t0, t1, t2, _, _, _⟩ := rd.three (rd.set3 R (.int .i64 0) (.int .i64 0) (.int .i64 0))
      exact bodyPost_ret (v := dem 0 0 0) (by simp [results, Tryz.results177, go_sem, t0, t1, t2]) rfl ⟨rfl, gr_new (gr_new (gr_new g0 (by omega) _ _) (by omega) _ _) (by omega) _ _⟩
    · have n0 : ((N.length : Int) == 0) = false := beq_eq_false_iff_ne.2 (by omega)
      have n0' : decide ((N.length : Int) = 0) = false := decide_eq_false (by omega)
      have e := hX.out
      rw [if_neg hN] at e
      have hn1 : (1 : Int) ≤ (N.length : Int) := by omega
      have hn2 : (N.length : Int) ≤ 6 := by omega
      have hnz : (N.length : Int) ≠ 0 := by omega
      have b1 : 0 ≤ (L * 6).tdiv (N.length : Int) ∧ (L * 6).tdiv (N.length : Int) ≤ 4800 := by
        have h0 : 0 ≤ L * 6 := by omega
        rw [Int.tdiv_eq_ediv_of_nonneg h0]
        constructor
        · exact Int.ediv_nonneg h0 (by omega)
        · exact Int.le_trans (Int.ediv_le_self _ h0) (by omega)
      rw [e] at b1
      clear hN
      go_wp2_with fail
      obtain ⟨t0, t1, t2, _, _, _⟩ := rd.three (rd.set3 R (.int .i64 X) (.int .i64 0) (.int .i64 0))
      exact bodyPost_ret (v := dem X 0 0) (by simp [results, Tryz.results177, go_sem, t0, t1, t2]) rfl ⟨rfl, gr_new (gr_new (gr_new g0 (by omega) _ _) (by omega) _ _) (by omega) _ _⟩

theorem wish_in (f : Fx) : 0 ≤ wish f ∧ wish f ≤ 4800 := by
  have hl := lift_in f
  unfold wish
  split
  · omega
  · have h0 : 0 ≤ lift f * 6 := by omega
    rw [Int.tdiv_eq_ediv_of_nonneg h0]
    constructor
    · exact Int.ediv_nonneg h0 (by omega)
    · exact Int.le_trans (Int.ediv_le_self _ h0) (by omega)
theorem bl_zero (l s : Int) : bl.bl l 0 0 s 0 = 0 := by
  unfold bl.bl
  split
  · have := bl.cut_le s 0 (by omega) (by omega)
    omega
  · rfl
/-- The lift that is shared, and what the fans and the push are to have. -/
def outL (f : Fx) : Int := if f.so = true then bl.bl (wish f) 0 0 f.sp (wish f) else wish f
def outsOf (m : Int) (f : Fx) : List Int := if inAir m = true then shared f.c (outL f) 0 0 ++ [if m = 2 ∨ m = 3 then bl.push m f.sp else 0] else List.replicate 7 0
theorem outL_in (f : Fx) : -4800 ≤ outL f ∧ outL f ≤ 4800 := by
  have hw := wish_in f
  unfold outL
  split
  · unfold bl.bl
    split
    · have := bl.cut_le f.sp (wish f) (by omega) (by omega)
      omega
    · omega
  · omega
theorem shared_len {c l r p : Int} (h : (cas.caseOk c && okD l r p) = true) : (shared c l r p).length = 6 := by rw [sh.shared_yes h]; simp [sh.shared6]
theorem okD_of {l : Int} (h : -4800 ≤ l ∧ l ≤ 4800) : okD l 0 0 = true := by
  unfold sh.okD inb
  simp; omega

set_option maxRecDepth 100000 in
set_option maxHeartbeats 4000000 in
theorem specOuts (m : Int) (f : Fx) (w : World) (hf : factsOk f = true) : Calls Tryz.prog 165 #[.int .i64 m, fac f] w (RetI (outsOf m f) w) := by
  obtain ⟨_, _, hc, _, _⟩ := facts_in hf
  obtain ⟨i0, hi, hz0, hz1, hz2⟩ := info_parts il.infoInt
  have K := Has.fresh w 35 (cs8 f)
  have g0 := World.grownBy_alloc w (Obj.cells (cs8 f) 35) none
  have cA := fun W => md.specInAir m W
  cases hA : inAir m
  · have e : outsOf m f = List.replicate 7 0 := by unfold outsOf; rw [hA]; simp
    rw [hA] at cA
    rw [e]
    have R := Has.fresh (w.alloc (Obj.cells (cs8 f) 35)) 2 (madeCells (Value.cells (.int .i64 0)) (7 * 1))
    have g1 := gr_alloc g0 (Obj.cells (madeCells (Value.cells (.int .i64 0)) (7 * 1)) 2)
    go_enter Tryz.func165, Tryz.ntmps165
    go_wp2_with fail
    refine (cA _).mono ?_
    rintro e w1 ⟨rfl, rfl⟩
    go_wp2_with (at_make; refine wpList_make_has _ rfl _ _ _ rfl 2 i0 _ 1 Tryz.underlying25 hi hz0 hz1 .i64 .i64 _ _ 7 rfl rfl rfl rfl (by rw [hz2]; omega) (by unfold maxLen; omega) ?_)
    go_ret
    rw [World.size_alloc] at R
    exact ⟨some ⟨w.heap.size + 1, 0, none⟩, 7, rfl, g1, own_zero7 R, fun b h => by rw [il.blk_some (by simp)] at h; injection h with h; omega⟩
  · have hl := outL_in f
    have e : outsOf m f = shared f.c (outL f) 0 0 ++ [if m = 2 ∨ m = 3 then bl.push m f.sp else 0] := by unfold outsOf; rw [hA]; simp
    rw [hA] at cA
    have cW := fun W => specWish f W hf
    have cB : ∀ W, Calls Tryz.prog 178 #[dem (wish f) 0 0, .int .i64 f.sp] W (sh.RetD (bl.bl (wish f) 0 0 f.sp (wish f)) 0 0 W) := fun W => by
      have h := bl.specBlended (wish f) 0 0 f.sp W
      unfold bl.RetB at h
      rw [bl_zero] at h
      exact h
    have cP := fun W => bl.specPushFor m f.sp W
    have cS := fun W => sh.specSharedR f.c (outL f) 0 0 W hc (okD_of hl)
    have hlen : Hid ((shared f.c (outL f) 0 0).length = 6) := Lib.hid (shared_len (by rw [hc, okD_of hl]; rfl))
    obtain ⟨pu, hpu⟩ : ∃ pu, (if m = 2 ∨ m = 3 then bl.push m f.sp else 0) = pu := ⟨_, rfl⟩
    rw [hpu] at e
    rw [e]
    clear e hA
    generalize shared f.c (outL f) 0 0 = S at *
    obtain ⟨c0, c1, c2, c3, c4, c5, c6, c7⟩ := md.eight K
    go_enter Tryz.func165, Tryz.ntmps165
    go_wp2_with fail
    refine (cA _).mono ?_
    rintro e w1 ⟨rfl, rfl⟩
    go_wp2_with fail
    refine (cW _).mono ?_
    rintro e w1 ⟨rfl, r⟩
    replace K := (K.grown r (by simp)).alloc (Obj.cells #[.int .i64 (wish f), .int .i64 0, .int .i64 0] 234)
    have D := Has.fresh w1 234 #[.int .i64 (wish f), .int .i64 0, .int .i64 0]
    have lk : w.heap.size < w1.heap.size := Nat.lt_of_lt_of_le (by simp) r.size
    replace g0 := gr_alloc (gr_trans g0 r) (Obj.cells #[.int .i64 (wish f), .int .i64 0, .int .i64 0] 234)
    clear c0 c1 c2 c3 c4 c5 c6 c7 r cA cW
    obtain ⟨c0, c1, c2, c3, c4, c5, c6, c7⟩ := md.eight K
    obtain ⟨d0, d1, d2, e0, e1, e2⟩ := rd.three D
    cases hso : f.so
    · have hO : outL f = wish f := by unfold outL; rw [hso]; simp
      clear c0 c2 c3 c4 c5 c6 c7 d0 d1 d2 e0 e1 e2 c1
      rw [hO] at cS
      clear hO
      obtain ⟨c0, c1, c2, c3, c4, c5, c6, c7⟩ := md.eight K
      rw [hso] at c1
      obtain ⟨d0, d1, d2, e0, e1, e2⟩ := rd.three D
      by_cases h2 : m = 2
      · subst h2
        rw [if_pos (Or.inl rfl)] at hpu
        rw [hpu] at cP
        clear hpu
        go_wp2_with fail
        refine (cP _).mono ?_
        rintro e w3 ⟨rfl, rfl⟩
        go_wp2_with fail
        refine (cS _).mono ?_
        rintro e w4 ⟨a, cap, base, rfl, r, hrow, hb1, hb2⟩
        have hs0 := g0.size
        replace g0 := gr_trans g0 r
        clear c0 c1 c2 c3 c4 c5 c6 c7 d0 d1 d2 e0 e1 e2
        go_wp2_with (at_builtin; refine wpList_append_lies _ rfl _ _ _ rfl base 2 i0 _ 1 8 Tryz.underlying25 hi hz0 hz1 hz2 rfl (by omega) (.slice a S.length cap) S.length (il.vals S) rfl (hrow.alloc _) ⟨w4.heap.size, 0, none⟩ 1 1 [.int .i64 pu] rfl rfl (World.news_of_block (cs := #[.int .i64 pu]) (t := 2) (fr := (0, 0)) (heap_alloc_new w4 _)) (by simp [Value.oneCell']) (by omega) (by rw [hlen.out]; unfold maxLen; omega) (by rw [hlen.out]; omega) (by simp; omega) (w4.heap.size + 1) (by simp) ?_; intro gg cap1 w5 hown3 hgrow hat hlt3)
        go_wp2_with fail
        go_ret
        have hr5 : IRow w5 base (.slice (some ⟨gg, 0, none⟩) (S ++ [pu]).length cap1) (S ++ [pu]) := by unfold IRow; rw [vals_snoc]; simpa using hown3
        have hb6 := row_base hrow
        have hs : w.heap.size ≤ base := by omega
        exact ⟨some ⟨gg, 0, none⟩, cap1, by simp, gr_own (gr_alloc g0 _) hgrow (fun g hg => by have := hb6 g hg; omega), hr5.own, fun x e => by have := hr5.above e; omega⟩
      · by_cases h3 : m = 3
        · subst h3
          rw [if_pos (Or.inr rfl)] at hpu
          rw [hpu] at cP
          clear hpu
          go_wp2_with fail
          refine (cP _).mono ?_
          rintro e w3 ⟨rfl, rfl⟩
          go_wp2_with fail
          refine (cS _).mono ?_
          rintro e w4 ⟨a, cap, base, rfl, r, hrow, hb1, hb2⟩
          have hs0 := g0.size
          replace g0 := gr_trans g0 r
          clear c0 c1 c2 c3 c4 c5 c6 c7 d0 d1 d2 e0 e1 e2
          go_wp2_with (at_builtin; refine wpList_append_lies _ rfl _ _ _ rfl base 2 i0 _ 1 8 Tryz.underlying25 hi hz0 hz1 hz2 rfl (by omega) (.slice a S.length cap) S.length (il.vals S) rfl (hrow.alloc _) ⟨w4.heap.size, 0, none⟩ 1 1 [.int .i64 pu] rfl rfl (World.news_of_block (cs := #[.int .i64 pu]) (t := 2) (fr := (0, 0)) (heap_alloc_new w4 _)) (by simp [Value.oneCell']) (by omega) (by rw [hlen.out]; unfold maxLen; omega) (by rw [hlen.out]; omega) (by simp; omega) (w4.heap.size + 1) (by simp) ?_; intro gg cap1 w5 hown3 hgrow hat hlt3)
          go_wp2_with fail
          go_ret
          have hr5 : IRow w5 base (.slice (some ⟨gg, 0, none⟩) (S ++ [pu]).length cap1) (S ++ [pu]) := by unfold IRow; rw [vals_snoc]; simpa using hown3
          have hb6 := row_base hrow
          have hs : w.heap.size ≤ base := by omega
          exact ⟨some ⟨gg, 0, none⟩, cap1, by simp, gr_own (gr_alloc g0 _) hgrow (fun g hg => by have := hb6 g hg; omega), hr5.own, fun x e => by have := hr5.above e; omega⟩
        · rw [if_neg (show ¬ (m = 2 ∨ m = 3) by omega)] at hpu
          subst hpu
          have m2 : (m == 2) = false := beq_eq_false_iff_ne.2 h2
          have m3 : (m == 3) = false := beq_eq_false_iff_ne.2 h3
          have m2' : decide (m = 2) = false := decide_eq_false h2
          have m3' : decide (m = 3) = false := decide_eq_false h3
          go_wp2_with fail
          refine (cS _).mono ?_
          rintro e w4 ⟨a, cap, base, rfl, r, hrow, hb1, hb2⟩
          have hs0 := g0.size
          replace g0 := gr_trans g0 r
          clear c0 c1 c2 c3 c4 c5 c6 c7 d0 d1 d2 e0 e1 e2
          go_wp2_with (at_builtin; refine wpList_append_lies _ rfl _ _ _ rfl base 2 i0 _ 1 8 Tryz.underlying25 hi hz0 hz1 hz2 rfl (by omega) (.slice a S.length cap) S.length (il.vals S) rfl (hrow.alloc _) ⟨w4.heap.size, 0, none⟩ 1 1 [.int .i64 0] rfl rfl (World.news_of_block (cs := #[.int .i64 0]) (t := 2) (fr := (0, 0)) (heap_alloc_new w4 _)) (by simp [Value.oneCell']) (by omega) (by rw [hlen.out]; unfold maxLen; omega) (by rw [hlen.out]; omega) (by simp; omega) (w4.heap.size + 1) (by simp) ?_; intro gg cap1 w5 hown3 hgrow hat hlt3)
          go_wp2_with fail
          go_ret
          have hr5 : IRow w5 base (.slice (some ⟨gg, 0, none⟩) (S ++ [0]).length cap1) (S ++ [0]) := by unfold IRow; rw [vals_snoc]; simpa using hown3
          have hb6 := row_base hrow
          have hs : w.heap.size ≤ base := by omega
          exact ⟨some ⟨gg, 0, none⟩, cap1, by simp, gr_own (gr_alloc g0 _) hgrow (fun g hg => by have := hb6 g hg; omega), hr5.own, fun x e => by have := hr5.above e; omega⟩
    · have hO : outL f = bl.bl (wish f) 0 0 f.sp (wish f) := by unfold outL; rw [hso]; simp
      generalize bl.bl (wish f) 0 0 f.sp (wish f) = Q at *
      rw [hso] at c1
      go_wp2_with fail
      refine (cB _).mono ?_
      rintro e w2 ⟨rfl, r⟩
      have lw := r.size
      replace K := K.grown r (by simp)
      replace D := D.grown r (by simp)
      replace g0 := gr_trans g0 r
      clear c0 c1 c2 c3 c4 c5 c6 c7 d0 d1 d2 e0 e1 e2 r
      obtain ⟨d0, d1, d2, e0, e1, e2⟩ := rd.three D
      go_upto_region 7 with fail
      have ne : w.heap.size ≠ w1.heap.size := by omega
      replace K := ((K.set_other ne 0 (.int .i64 Q)).set_other ne 1 (.int .i64 0)).set_other ne 2 (.int .i64 0)
      replace D := rd.set3 D (.int .i64 Q) (.int .i64 0) (.int .i64 0)
      replace g0 := gr_new (gr_new (gr_new g0 (Nat.le_of_lt lk) 0 (.int .i64 Q)) (Nat.le_of_lt lk) 1 (.int .i64 0)) (Nat.le_of_lt lk) 2 (.int .i64 0)
      clear d0 d1 d2 e0 e1 e2 lw cB
      generalize ((w2.setCell ⟨w1.heap.size, 0, none⟩ (.int .i64 Q)).setCell ⟨w1.heap.size, 1, none⟩ (.int .i64 0)).setCell ⟨w1.heap.size, 2, none⟩ (.int .i64 0) = w3' at *
      rw [hO] at cS
      clear hO
      obtain ⟨c0, c1, c2, c3, c4, c5, c6, c7⟩ := md.eight K
      rw [hso] at c1
      obtain ⟨d0, d1, d2, e0, e1, e2⟩ := rd.three D
      by_cases h2 : m = 2
      · subst h2
        rw [if_pos (Or.inl rfl)] at hpu
        rw [hpu] at cP
        clear hpu
        go_wp2_with fail
        refine (cP _).mono ?_
        rintro e w3 ⟨rfl, rfl⟩
        go_wp2_with fail
        refine (cS _).mono ?_
        rintro e w4 ⟨a, cap, base, rfl, r, hrow, hb1, hb2⟩
        have hs0 := g0.size
        replace g0 := gr_trans g0 r
        clear c0 c1 c2 c3 c4 c5 c6 c7 d0 d1 d2 e0 e1 e2
        go_wp2_with (at_builtin; refine wpList_append_lies _ rfl _ _ _ rfl base 2 i0 _ 1 8 Tryz.underlying25 hi hz0 hz1 hz2 rfl (by omega) (.slice a S.length cap) S.length (il.vals S) rfl (hrow.alloc _) ⟨w4.heap.size, 0, none⟩ 1 1 [.int .i64 pu] rfl rfl (World.news_of_block (cs := #[.int .i64 pu]) (t := 2) (fr := (0, 0)) (heap_alloc_new w4 _)) (by simp [Value.oneCell']) (by omega) (by rw [hlen.out]; unfold maxLen; omega) (by rw [hlen.out]; omega) (by simp; omega) (w4.heap.size + 1) (by simp) ?_; intro gg cap1 w5 hown3 hgrow hat hlt3)
        go_wp2_with fail
        go_ret
        have hr5 : IRow w5 base (.slice (some ⟨gg, 0, none⟩) (S ++ [pu]).length cap1) (S ++ [pu]) := by unfold IRow; rw [vals_snoc]; simpa using hown3
        have hb6 := row_base hrow
        have hs : w.heap.size ≤ base := by omega
        exact ⟨some ⟨gg, 0, none⟩, cap1, by simp, gr_own (gr_alloc g0 _) hgrow (fun g hg => by have := hb6 g hg; omega), hr5.own, fun x e => by have := hr5.above e; omega⟩
      · by_cases h3 : m = 3
        · subst h3
          rw [if_pos (Or.inr rfl)] at hpu
          rw [hpu] at cP
          clear hpu
          go_wp2_with fail
          refine (cP _).mono ?_
          rintro e w3 ⟨rfl, rfl⟩
          go_wp2_with fail
          refine (cS _).mono ?_
          rintro e w4 ⟨a, cap, base, rfl, r, hrow, hb1, hb2⟩
          have hs0 := g0.size
          replace g0 := gr_trans g0 r
          clear c0 c1 c2 c3 c4 c5 c6 c7 d0 d1 d2 e0 e1 e2
          go_wp2_with (at_builtin; refine wpList_append_lies _ rfl _ _ _ rfl base 2 i0 _ 1 8 Tryz.underlying25 hi hz0 hz1 hz2 rfl (by omega) (.slice a S.length cap) S.length (il.vals S) rfl (hrow.alloc _) ⟨w4.heap.size, 0, none⟩ 1 1 [.int .i64 pu] rfl rfl (World.news_of_block (cs := #[.int .i64 pu]) (t := 2) (fr := (0, 0)) (heap_alloc_new w4 _)) (by simp [Value.oneCell']) (by omega) (by rw [hlen.out]; unfold maxLen; omega) (by rw [hlen.out]; omega) (by simp; omega) (w4.heap.size + 1) (by simp) ?_; intro gg cap1 w5 hown3 hgrow hat hlt3)
          go_wp2_with fail
          go_ret
          have hr5 : IRow w5 base (.slice (some ⟨gg, 0, none⟩) (S ++ [pu]).length cap1) (S ++ [pu]) := by unfold IRow; rw [vals_snoc]; simpa using hown3
          have hb6 := row_base hrow
          have hs : w.heap.size ≤ base := by omega
          exact ⟨some ⟨gg, 0, none⟩, cap1, by simp, gr_own (gr_alloc g0 _) hgrow (fun g hg => by have := hb6 g hg; omega), hr5.own, fun x e => by have := hr5.above e; omega⟩
        · rw [if_neg (show ¬ (m = 2 ∨ m = 3) by omega)] at hpu
          subst hpu
          have m2 : (m == 2) = false := beq_eq_false_iff_ne.2 h2
          have m3 : (m == 3) = false := beq_eq_false_iff_ne.2 h3
          have m2' : decide (m = 2) = false := decide_eq_false h2
          have m3' : decide (m = 3) = false := decide_eq_false h3
          go_wp2_with fail
          refine (cS _).mono ?_
          rintro e w4 ⟨a, cap, base, rfl, r, hrow, hb1, hb2⟩
          have hs0 := g0.size
          replace g0 := gr_trans g0 r
          clear c0 c1 c2 c3 c4 c5 c6 c7 d0 d1 d2 e0 e1 e2
          go_wp2_with (at_builtin; refine wpList_append_lies _ rfl _ _ _ rfl base 2 i0 _ 1 8 Tryz.underlying25 hi hz0 hz1 hz2 rfl (by omega) (.slice a S.length cap) S.length (il.vals S) rfl (hrow.alloc _) ⟨w4.heap.size, 0, none⟩ 1 1 [.int .i64 0] rfl rfl (World.news_of_block (cs := #[.int .i64 0]) (t := 2) (fr := (0, 0)) (heap_alloc_new w4 _)) (by simp [Value.oneCell']) (by omega) (by rw [hlen.out]; unfold maxLen; omega) (by rw [hlen.out]; omega) (by simp; omega) (w4.heap.size + 1) (by simp) ?_; intro gg cap1 w5 hown3 hgrow hat hlt3)
          go_wp2_with fail
          go_ret
          have hr5 : IRow w5 base (.slice (some ⟨gg, 0, none⟩) (S ++ [0]).length cap1) (S ++ [0]) := by unfold IRow; rw [vals_snoc]; simpa using hown3
          have hb6 := row_base hrow
          have hs : w.heap.size ≤ base := by omega
          exact ⟨some ⟨gg, 0, none⟩, cap1, by simp, gr_own (gr_alloc g0 _) hgrow (fun g hg => by have := hb6 g hg; omega), hr5.own, fun x e => by have := hr5.above e; omega⟩
end Go.Proofs.YtdikhdfpcipdbaaGreatDoor.br

/- Chapter 16 on plain brains: what one tick makes stays right. -/
namespace Go.Proofs.YtdikhdfpcipdbaaGreatDoor.br
open Go.Proofs.YtdikhdfpcipdbaaGreatDoor.nums
open Go.Proofs.YtdikhdfpcipdbaaGreatDoor.rd (R okR)
open Go.Proofs.YtdikhdfpcipdbaaGreatDoor.fan (F okF)
open Go.Proofs.YtdikhdfpcipdbaaGreatDoor.gt (G)
open Go.Proofs.YtdikhdfpcipdbaaGreatDoor.md (Fx factsOk modeOk inAir)
open Go.Proofs.YtdikhdfpcipdbaaGreatDoor.il (nth nth_lt)
open Go.Proofs.YtdikhdfpcipdbaaGreatDoor.sh (on turn pt pt_le top_in turn_in cutL has shared shared6 okD)
set_option linter.unusedVariables false

theorem watched_ok (f : F) (wn : Int) (r : R) : okF (fan.watched f wn r) = true := by
  cases h : fan.right f wn r
  · rw [fan.watched_no h]; rfl
  · obtain ⟨h0, _, _⟩ := fan.right_iff.1 h
    obtain ⟨N, o, t⟩ := f
    by_cases hw : 100 ≤ wn
    · rw [fan.watched_hi h hw]
      have := fan.felt_rng (on := o) (out := t) (fan.lowB wn r) h0.1 h0.2
      show inb (fan.felt (N, o, t) (fan.lowB wn r)).1 0 100 = true
      unfold inb; simp; omega
    · rw [fan.watched_low h (by omega)]
      show inb N 0 100 = true
      unfold inb; simp; omega
theorem outIn_mem {l : List F} {n : Int} (h : n ∈ fan.outIn l) : 0 ≤ n ∧ n ≤ 5 := by
  unfold fan.outIn at h
  split at h
  · rename_i h6
    unfold fan.outs at h
    obtain ⟨j, hj, rfl⟩ := List.mem_map.1 h
    have hj := List.mem_range.1 (List.mem_filter.1 hj).1
    have := h6.1
    omega
  · cases h
theorem half_in {x : Int} (h0 : -2000000 ≤ x) (h1 : x ≤ 2000000) : -1000000 ≤ x.tdiv 2 ∧ x.tdiv 2 ≤ 1000000 := by
  by_cases h : 0 ≤ x
  · rw [Int.tdiv_eq_ediv_of_nonneg h]; omega
  · have e : x.tdiv 2 = -((-x).tdiv 2) := by rw [Int.neg_tdiv]; simp
    rw [e, Int.tdiv_eq_ediv_of_nonneg (by omega)]; omega
theorem vote3_in (l : List R) (m : Int) : -1000000 ≤ (vt.voteThree l m).1 ∧ (vt.voteThree l m).1 ≤ 1000000 := by
  have hl := vt.voters_length l 3 m
  have hin : ∀ v, v ∈ vt.voters l 3 m → -1000000 ≤ v ∧ v ≤ 1000000 := fun v h => vt.voters_in h
  unfold vt.voteThree
  generalize vt.voters l 3 m = v at *
  rcases vt.upto3 hl with rfl | ⟨a, rfl⟩ | ⟨a, b, rfl⟩ | ⟨a, b, c, rfl⟩
  · exact ⟨by decide, by decide⟩
  · exact hin a (by simp)
  · have h1 := hin a (by simp)
    have h2 := hin b (by simp)
    exact half_in (x := a + b) (by omega) (by omega)
  · have h1 := hin a (by simp)
    have h2 := hin b (by simp)
    have h3 := hin c (by simp)
    show -1000000 ≤ vt.mid a b c ∧ vt.mid a b c ≤ 1000000
    unfold vt.mid; omega
theorem vote2_in (l : List R) (m ap : Int) : -1000000 ≤ (vt.voteTwo l m ap).1 ∧ (vt.voteTwo l m ap).1 ≤ 1000000 := by
  have hl := vt.voters_length l 2 m
  have hin : ∀ v, v ∈ vt.voters l 2 m → -1000000 ≤ v ∧ v ≤ 1000000 := fun v h => vt.voters_in h
  unfold vt.voteTwo
  split
  · generalize vt.voters l 2 m = v at *
    rcases vt.upto3 (Nat.le_trans hl (by omega)) with rfl | ⟨a, rfl⟩ | ⟨a, b, rfl⟩ | ⟨a, b, c, rfl⟩
    · exact ⟨(by decide : (-1000000 : Int) ≤ 0), (by decide : (0 : Int) ≤ 1000000)⟩
    · exact hin a (by simp)
    · have h1 := hin a (by simp)
      have h2 := hin b (by simp)
      show -1000000 ≤ min a b ∧ min a b ≤ 1000000
      omega
    · simp at hl
  · exact ⟨(by decide : (-1000000 : Int) ≤ 0), (by decide : (0 : Int) ≤ 1000000)⟩
theorem factsOk_of (s : se.S) (c t : Int) : factsOk (se.factsOf s c t) = true := by
  cases h : se.ok s && cas.caseOk c
  · rw [se.factsOf_no t h]; decide
  · rw [se.factsOf_yes t h]
    simp only [Bool.and_eq_true] at h
    have w := (se.ok_iff.1 h.1).wn
    have h1 := vote3_in s.sp 3
    have h2 := vote2_in s.he 3 10
    have h3 : 0 ≤ btw t 0 1000 ∧ btw t 0 1000 ≤ 1000 := by unfold btw; omega
    unfold factsOk
    simp only [Bool.and_eq_true]
    refine ⟨?_, ?_, h.2, w, ?_⟩ <;> (unfold inb; simp; omega)
theorem modeOk_nx {m : Int} (f : Fx) (h : modeOk m = true) : modeOk (md.nx m f) = true := by
  rcases md.six h with rfl | rfl | rfl | rfl | rfl | rfl
  · rfl
  · show modeOk (if md.landed f = true then 0 else if md.setOut f = true then 2 else 1) = true
    cases md.landed f <;> cases md.setOut f <;> rfl
  · show modeOk (if md.giveUp f = true then 4 else if md.fast f = true then 3 else 2) = true
    cases md.giveUp f <;> cases md.fast f <;> rfl
  · show modeOk (if md.turnBack f = true then 4 else 3) = true
    cases md.turnBack f <;> rfl
  · show modeOk (if md.back f = true then 1 else 4) = true
    cases md.back f <;> rfl
  · rfl
theorem modeOk_next (m : Int) (f : Fx) : modeOk (md.nextMode m f) = true := by
  cases h : modeOk m && factsOk f
  · rw [md.next_no h]; rfl
  · simp only [Bool.and_eq_true] at h
    rw [md.next_yes h.1 h.2, md.next_is f h.1]
    split
    · rfl
    · split
      · rfl
      · exact modeOk_nx f h.1
theorem gated_in {g : G} (ch st : Bool) (f : Fx) (h : inb g.1 0 100 = true) : inb (gt.gated g ch st f).1 0 100 = true := by
  have h' : 0 ≤ g.1 ∧ g.1 ≤ 100 := by unfold inb at h; simpa using h
  unfold gt.gated
  split
  · unfold gt.ticked
    split
    · exact h
    · split
      · rfl
      · show inb (min (g.1 + 1) 100) 0 100 = true
        unfold inb; simp; omega
  · rfl
theorem has_in {c l r p : Int} (hr : -100 ≤ r ∧ r ≤ 100) (hp : -100 ≤ p ∧ p ≤ 100) {k : Nat} (hk : k < 6) : 0 ≤ has c (cutL (on c) l r p) r p k ∧ has c (cutL (on c) l r p) r p k ≤ 1000 := by
  have ht := top_in (S := on c) (t := turn r p) (B := 400) (by omega) (fun k hk => turn_in hr hp hk)
  have h1 := pt_le (S := on c) (t := turn r p) hk
  unfold has
  split
  · rename_i ho
    unfold pt at h1
    rw [if_pos ho] at h1
    unfold cutL btw; omega
  · omega
theorem okO_of {n : Int} (h : 0 ≤ n ∧ n ≤ 1000) : bl.okO n = true := by unfold bl.okO inb; simp; omega
theorem shared_okO {c l r p : Int} (h : (cas.caseOk c && okD l r p) = true) : (shared c l r p).all bl.okO = true := by
  refine bl.all_of fun j hj => ?_
  rw [shared_len h] at hj
  have hb : ∀ x : Int, -100 ≤ btw x (-100) 100 ∧ btw x (-100) 100 ≤ 100 := fun x => by unfold btw; omega
  rw [sh.shared_yes h]
  unfold shared6
  rw [sh.map6 hj]
  exact okO_of (has_in (hb r) (hb p) hj)
/-- Seven right numbers. -/
def Seven (l : List Int) : Prop := l.length = 7 ∧ l.all bl.okO = true
theorem seven_zero : Seven (List.replicate 7 0) := ⟨rfl, by decide⟩
theorem seven_outs (m : Int) {f : Fx} (hf : factsOk f = true) : Seven (outsOf m f) := by
  unfold outsOf
  split
  · obtain ⟨_, _, hc, _, _⟩ := facts_in hf
    have h : (cas.caseOk f.c && okD (outL f) 0 0) = true := by rw [hc, okD_of (outL_in f)]; rfl
    refine ⟨by rw [List.length_append, shared_len h]; rfl, ?_⟩
    rw [List.all_append, shared_okO h, Bool.true_and]
    simp only [List.all_cons, List.all_nil, Bool.and_true]
    split
    · exact okO_of (bl.push_in m f.sp)
    · exact okO_of (by omega)
  · exact seven_zero
theorem seven_slew {x y : List Int} (hx : Seven x) (hy : Seven y) : Seven (bl.slew x y 100) := by
  have h : bl.okAB x y = true := by unfold bl.okAB bl.okA; rw [hx.1, hy.1, hx.2, hy.2]; rfl
  rw [bl.slew_yes h]
  refine ⟨by rw [bl.to_len]; exact hx.1, bl.all_of fun j hj => ?_⟩
  rw [bl.to_len] at hj
  rw [bl.to_at hj]
  refine okO_of ?_
  unfold bl.one
  split
  · omega
  · exact bl.toward_in (bl.ok_bd (bl.all_at hx.2 hj)) (bl.ok_bd (bl.all_at hy.2 (by rw [hy.1, ← hx.1]; exact hj)))
theorem rst_len (rd : List UInt8 → Option stm.Fr) (s : List UInt8) : (stm.rstOf rd s).length ≤ 60 := by
  unfold stm.rstOf stm.rest
  split
  · simp
  · split
    · simp
    · omega
theorem frs_short {rd : List UInt8 → Option stm.Fr} (hrd : ∀ s, txt.IsRead s (rd s)) (s : List UInt8) : (stm.frsOf rd s).length ≤ 50 ∧ ∀ k, k < (stm.frsOf rd s).length → (stm.fv (stm.frsOf rd s) k).length ≤ 6 := by
  unfold stm.frsOf
  split
  · exact ⟨by simp, fun k hk => by simp at hk⟩
  · exact ⟨stm.run_len rd s, stm.allOk_short (stm.run_ok hrd s)⟩
end Go.Proofs.YtdikhdfpcipdbaaGreatDoor.br

/- Chapter 17 of the model: a body, and how it moves. -/
namespace Go.Proofs.YtdikhdfpcipdbaaGreatDoor.bo
open Go.ChangeShapes Go.WideShapes Go.ChangeAt Go.RowKit
open Go.Proofs.YtdikhdfpcipdbaaGreatDoor.nums Go.Proofs.YtdikhdfpcipdbaaGreatDoor.mem
open Go.Proofs.YtdikhdfpcipdbaaGreatDoor.tab (Ret quiet_w)
open Go.Proofs.YtdikhdfpcipdbaaGreatDoor.il (nth Ints)
open Go.Proofs.YtdikhdfpcipdbaaGreatDoor.rd (three set3)
open Go.Proofs.YtdikhdfpcipdbaaGreatDoor.qt (region_below_tail rg_ret rg_same gr_rg)
set_option linter.unusedVariables false

abbrev bd (h r s : Int) : Value := .agg #[.int .i64 h, .int .i64 r, .int .i64 s]
abbrev cs3 (h r s : Int) : Array Value := #[.int .i64 h, .int .i64 r, .int .i64 s]
def bodyOk (h r s : Int) : Bool := inb h 0 2000 && (inb r (-50) 50 && inb s 0 400)
theorem ok_iff {h r s : Int} : bodyOk h r s = true ↔ (0 ≤ h ∧ h ≤ 2000) ∧ (-50 ≤ r ∧ r ≤ 50) ∧ (0 ≤ s ∧ s ≤ 400) := by
  unfold bodyOk inb; simp
/-- The sum of the first k. -/
def psum (o : List Int) : Nat → Int
  | 0 => 0
  | k + 1 => psum o k + nth o k
theorem psum_in {o : List Int} (h : o.all bl.okO = true) : ∀ k, k ≤ o.length → 0 ≤ psum o k ∧ psum o k ≤ 1000 * k := by
  intro k
  induction k with
  | zero =>
    intro _
    show (0 : Int) ≤ 0 ∧ (0 : Int) ≤ 1000 * ((0 : Nat) : Int)
    omega
  | succ k ih =>
    intro hk
    have h1 := ih (by omega)
    have h2 := bl.ok_bd (bl.all_at h (show k < o.length by omega))
    show 0 ≤ psum o k + nth o k ∧ psum o k + nth o k ≤ 1000 * ((k + 1 : Nat) : Int)
    omega
def rise (r g L : Int) : Int := btw (r + kPart (L - 3000) 1 300 + btw g (-3) 3) (-50) 50
def mvH (h r s : Int) (o : List Int) (g : Int) : Int := btw (h + rise r g (psum o 6 + 30 * btw (s - 100) 0 200)) 0 2000
def mvR (h r s : Int) (o : List Int) (g : Int) : Int := if mvH h r s o g = 0 ∧ rise r g (psum o 6 + 30 * btw (s - 100) 0 200) < 0 then 0 else rise r g (psum o 6 + 30 * btw (s - 100) 0 200)
def mvS (s : Int) (o : List Int) : Int := kToward s (kPart 4 (nth o 6) 10) 10
theorem btw_in {x l h : Int} (hl : l ≤ h) : l ≤ btw x l h ∧ btw x l h ≤ h := by unfold btw; omega
theorem part_in (a b c : Int) : -1000000 ≤ kPart a b c ∧ kPart a b c ≤ 1000000 := by
  unfold kPart
  split
  · exact ⟨by decide, by decide⟩
  · exact ⟨fit_ge _, fit_le _⟩
theorem part4 {x : Int} (h : 0 ≤ x ∧ x ≤ 1000) : 0 ≤ kPart 4 x 10 ∧ kPart 4 x 10 ≤ 400 := by
  unfold kPart
  rw [if_neg (by omega), fit_same 4 (by omega) (by omega), fit_same x (by omega) (by omega), Int.tdiv_eq_ediv_of_nonneg (by omega)]
  unfold fit btw; omega
theorem mvS_in {s : Int} {o : List Int} (hs : 0 ≤ s ∧ s ≤ 400) (h : 0 ≤ nth o 6 ∧ nth o 6 ≤ 1000) : 0 ≤ mvS s o ∧ mvS s o ≤ 400 := by
  have := part4 h
  unfold mvS kToward
  rw [fit_same s (by omega) (by omega), fit_same (kPart 4 (nth o 6) 10) (by omega) (by omega)]
  unfold btw; omega
theorem mv_in {h r s : Int} {o : List Int} (g : Int) (hs : 0 ≤ s ∧ s ≤ 400) (ho : 0 ≤ nth o 6 ∧ nth o 6 ≤ 1000) : bodyOk (mvH h r s o g) (mvR h r s o g) (mvS s o) = true := by
  refine ok_iff.2 ⟨btw_in (by omega), ?_, mvS_in hs ho⟩
  unfold mvR
  split
  · omega
  · exact btw_in (by omega)

theorem specBodyOk (h r s : Int) (w : World) : Calls Tryz.prog 121 #[bd h r s] w (Ret (.bool (bodyOk h r s)) w) := by
  have K := Has.fresh w 90 (cs3 h r s)
  have g0 := World.grownBy_alloc w (Obj.cells (cs3 h r s) 90) none
  obtain ⟨c0, c1, c2, _, _, _⟩ := three K
  have q1 := fun W => fix.specIn h 0 2000 W
  have q2 := fun W => fix.specIn r (-50) 50 W
  have q3 := fun W => fix.specIn s 0 400 W
  unfold bodyOk
  cases h1 : inb h 0 2000
  · rw [h1] at q1
    go_enter Tryz.func121, Tryz.ntmps121
    go_wp2_with fail
    refine (q1 _).mono ?_
    rintro e w1 ⟨rfl, rfl⟩
    go_wp2_with fail
    go_ret
    exact ⟨rfl, g0⟩
  · rw [h1] at q1
    cases h2 : inb r (-50) 50
    · rw [h2] at q2
      go_enter Tryz.func121, Tryz.ntmps121
      go_wp2_with fail
      refine (q1 _).mono ?_
      rintro e w1 ⟨rfl, rfl⟩
      go_wp2_with fail
      refine (q2 _).mono ?_
      rintro e w1 ⟨rfl, rfl⟩
      go_wp2_with fail
      go_ret
      exact ⟨rfl, g0⟩
    · rw [h2] at q2
      go_enter Tryz.func121, Tryz.ntmps121
      go_wp2_with fail
      refine (q1 _).mono ?_
      rintro e w1 ⟨rfl, rfl⟩
      go_wp2_with fail
      refine (q2 _).mono ?_
      rintro e w1 ⟨rfl, rfl⟩
      go_wp2_with fail
      refine (q3 _).mono ?_
      rintro e w1 ⟨rfl, rfl⟩
      go_wp2_with fail
      go_ret
      exact ⟨rfl, g0⟩

set_option maxRecDepth 100000 in
set_option maxHeartbeats 4000000 in
theorem specMoved (h r s : Int) (a : Option Addr) (cap : Nat) (o : List Int) (g : Int) (w : World) (ho : Ints w a o) (hb : bodyOk h r s = true) (h7 : br.Seven o) (hg1 : -9223372036854775808 ≤ g) (hg2 : g ≤ 9223372036854775807) :
    Calls Tryz.prog 148 #[bd h r s, .slice a o.length cap, .int .i64 g] w (Ret (bd (mvH h r s o g) (mvR h r s o g) (mvS s o)) w) := by
  obtain ⟨⟨a1, a2⟩, ⟨a3, a4⟩, a5, a6⟩ := ok_iff.1 hb
  have K := (Has.fresh w 90 (cs3 h r s)).alloc (Obj.cells (cs3 0 0 0) 90)
  have R := Has.fresh (w.alloc (Obj.cells (cs3 h r s) 90)) 90 (cs3 0 0 0)
  have G := gr_alloc (World.grownBy_alloc w (Obj.cells (cs3 h r s) 90) none) (Obj.cells (cs3 0 0 0) 90)
  simp only [World.size_alloc] at R
  have cO := fun W => specBodyOk h r s W
  rw [hb] at cO
  have cA := fun W k => bl.specAll a cap o 7 W k (by rw [h7.1]; unfold maxLen; omega)
  have eA : (decide ((o.length : Int) = 7) && o.all bl.okO) = true := by rw [h7.1, h7.2]; rfl
  rw [eA] at cA
  clear eA
  have H7 := Lib.hid h7
  have hps := Lib.hid (psum_in h7.2)
  have hs6 := psum_in h7.2 6 (by rw [h7.1]; omega)
  have h6 := bl.ok_bd (bl.all_at h7.2 (show 6 < o.length by rw [h7.1]; omega))
  clear h7 hb
  have bB := btw_in (x := s - 100) (show (0 : Int) ≤ 200 by omega)
  have cB := fun W => fix.specBetween (s - 100) 0 200 W
  have cP := fun W => fix.specPart (psum o 6 + 30 * btw (s - 100) 0 200 - 3000) 1 300 W
  have bP := part_in (psum o 6 + 30 * btw (s - 100) 0 200 - 3000) 1 300
  have cG := fun W => fix.specBetween g (-3) 3 W
  have bG := btw_in (x := g) (show (-3 : Int) ≤ 3 by omega)
  have cR := fun W => fix.specBetween (r + kPart (psum o 6 + 30 * btw (s - 100) 0 200 - 3000) 1 300 + btw g (-3) 3) (-50) 50 W
  have bR := btw_in (x := r + kPart (psum o 6 + 30 * btw (s - 100) 0 200 - 3000) 1 300 + btw g (-3) 3) (show (-50 : Int) ≤ 50 by omega)
  have cH := fun W => fix.specBetween (h + rise r g (psum o 6 + 30 * btw (s - 100) 0 200)) 0 2000 W
  have bH := btw_in (x := h + rise r g (psum o 6 + 30 * btw (s - 100) 0 200)) (show (0 : Int) ≤ 2000 by omega)
  have cQ := fun W => fix.specPart 4 (nth o 6) 10 W
  have bQ := part4 h6
  have cT := fun W => fix.specToward s (kPart 4 (nth o 6) 10) 10 W (by omega) (by omega)
  unfold mvR mvH mvS
  unfold rise at *
  generalize btw (s - 100) 0 200 = B at *
  generalize hX : psum o 6 = X at *
  generalize kPart (X + 30 * B - 3000) 1 300 = A at *
  generalize btw g (-3) 3 = C at *
  generalize btw (r + A + C) (-50) 50 = D at *
  generalize btw (h + D) 0 2000 = E at *
  generalize kPart 4 (nth o 6) 10 = Q at *
  generalize kToward s Q 10 = T at *
  obtain ⟨Z, hZ⟩ : ∃ x : Int, (if E = 0 ∧ D < 0 then 0 else D) = x := ⟨_, rfl⟩
  rw [hZ]
  replace hZ := Lib.hid hZ
  obtain ⟨c0, c1, c2, _, _, _⟩ := three K
  go_enter Tryz.func148, Tryz.ntmps148
  go_wp2_with fail
  refine (cO _).mono ?_
  rintro e w1 ⟨rfl, k⟩
  replace G := gr_trans G k
  replace K := K.grown k (by simp)
  replace R := R.grown k (by simp)
  clear c0 c1 c2 cO
  have hsz := k.size
  clear k
  simp only [World.size_alloc] at hsz
  go_wp2_with fail
  refine (cA _ (ho.kept G)).mono ?_
  rintro e w2 ⟨rfl, rfl⟩
  clear cA
  go_wp2_with fail
  go_loopw [7, 8] (fun l i wr => ∃ k : Nat, k ≤ 6 ∧ i = .int .i64 k ∧ l = .int .i64 (psum o k) ∧ wr = w1) (fun _ i _ => 6 - (intOf i).toNat)
  case atStart => exact ⟨0, by omega, rfl, rfl, rfl⟩
  case round =>
    obtain ⟨k, hk, rfl, rfl, rfl⟩ := hrel
    by_cases hlt : k < 6
    · have hko : k < o.length := by have := H7.out.1; omega
      obtain ⟨x, rfl, _, cx⟩ := (ho.kept G) k hko
      have b1 := hps.out k (by omega)
      have b2 := bl.ok_bd (bl.all_at H7.out.2 hko)
      go_wp2_with fail
      go_roundw
      case rel => exact ⟨k + 1, by omega, by go_num, rfl, by first | rfl | trivial⟩
      case measure => simp [intOf]; omega
    · obtain rfl : k = 6 := by omega
      rw [hX]
      clear hlt hk
      obtain ⟨c0, c1, c2, _, _, _⟩ := three K
      go_wp2_with fail
      refine (cB _).mono ?_
      rintro e w3 ⟨rfl, rfl⟩
      go_upto_region 9 with fail
      go_quiet (first | (go_at_call 169; with_reducible exact quiet_w (cP _)) | (go_at_call 44; first | with_reducible exact quiet_w (cG _) | with_reducible exact quiet_w (cR _)))
      replace G := gr_drewN G nq
      replace K : Has (wr.drewN nq) w.heap.size 90 (cs3 h r s) := K
      replace R : Has (wr.drewN nq) (w.heap.size + 1) 90 (cs3 0 0 0) := R
      replace hsz : w.heap.size + 1 + 1 ≤ (wr.drewN nq).heap.size := hsz
      clear c0 c1 c2
      generalize wr.drewN nq = wn at *
      obtain ⟨c0, c1, c2, _, _, _⟩ := three K
      go_wp2_with fail
      refine (cH _).mono ?_
      rintro e w4 ⟨rfl, rfl⟩
      go_upto_region 11 with fail
      have D1 := Has.fresh wn 90 (cs3 E D 0)
      replace G := gr_alloc G (Obj.cells (cs3 E D 0) 90)
      replace K := K.alloc (Obj.cells (cs3 E D 0) 90)
      replace R := R.alloc (Obj.cells (cs3 E D 0) 90)
      clear c0 c1 c2
      have lq : w.heap.size + 1 < wn.heap.size := by omega
      generalize hq : wn.heap.size = q at *
      generalize wn.alloc (Obj.cells (cs3 E D 0) 90) = wb at *
      obtain ⟨c0, c1, c2, _, _, _⟩ := three K
      obtain ⟨d0, d1, d2, f0, f1, f2⟩ := three D1
      by_cases hE : E = 0
      · have m1 : (E == 0) = true := beq_iff_eq.2 hE
        have m3 : decide (E = 0) = true := decide_eq_true hE
        by_cases hD : D < 0
        · have m4 : decide (D < 0) = true := decide_eq_true hD
          have hz : Z = 0 := by rw [← hZ.out, if_pos ⟨hE, hD⟩]
          subst hz
          clear hZ hE
          go_upto_region 13 with fail
          replace D1 := D1.put 1 (.int .i64 0) (cs' := cs3 E 0 0) rfl
          replace K := K.set_other (g' := q) (by omega) 1 (.int .i64 0)
          replace R := R.set_other (g' := q) (by omega) 1 (.int .i64 0)
          replace G := gr_new G (show w.heap.size ≤ q by omega) 1 (.int .i64 0)
          generalize wb.setCell ⟨q, 1, none⟩ (.int .i64 0) = wc at *
          clear c0 c1 c2 d0 d1 d2 f0 f1 f2
          obtain ⟨x, rfl, _, cx⟩ := (ho.kept G) 6 (by have := H7.out.1; omega)
          obtain ⟨c0, c1, c2, _, _, _⟩ := three K
          have hl6 : 6 < o.length := by have := H7.out.1; omega
          have hl6i : (6 : Int) < (o.length : Int) := by omega
          have hl6d : decide ((6 : Int) < (o.length : Int)) = true := decide_eq_true hl6i
          have e0 : ∀ d os, (Go.Sort.grow (redrawn wc d) os).cell? ⟨w.heap.size, 2, none⟩ = some (.int .i64 s) := cell_regrown c2
          have e1 : ∀ d os, (Go.Sort.grow (redrawn wc d) os).cell? (x.add 6) = some (.int .i64 (nth o 6)) := cell_regrown cx
          have e2 := e1
          simp [Addr.add] at e2
          clear c0 c1 c2 cx
          refine region_below_tail 8 (by kernel_rfl) (by kernel_rfl) ?_
          simp only [List.take_succ_cons, List.take_zero, List.drop_succ_cons, List.drop_zero]
          repeat (quiet_step (first | (go_at_call 169; with_reducible exact rg_same (cQ _)) | (go_at_call 170; with_reducible exact rg_same (cT _)) | fail))
          refine wpQuiet_nil ?_
          intro _ hw'
          obtain ⟨⟨dq, osq⟩, hw''⟩ := hw'
          subst hw''
          have gq := gr_rg wc dq osq
          replace G := gr_trans G gq
          replace D1 := D1.grown gq (by simp)
          replace R := R.grown gq (by simp)
          clear gq e0 e1 e2
          generalize Go.Sort.grow (redrawn wc dq) osq = wd at *
          obtain ⟨d0, d1, d2, f0, f1, f2⟩ := three D1
          go_upto_region 14 with fail
          replace D1 := D1.put 2 (.int .i64 T) (cs' := cs3 E 0 T) rfl
          replace R := R.set_other (g' := q) (by omega) 2 (.int .i64 T)
          replace G := gr_new G (show w.heap.size ≤ q by omega) 2 (.int .i64 T)
          clear d0 d1 d2 f0 f1 f2
          generalize wd.setCell ⟨q, 2, none⟩ (.int .i64 T) = we at *
          obtain ⟨d0, d1, d2, f0, f1, f2⟩ := three D1
          obtain ⟨k0, k1, k2, p0, p1, p2⟩ := three R
          go_wp2_with fail
          obtain ⟨u0, u1, u2, _, _, _⟩ := three (set3 R (.int .i64 E) (.int .i64 0) (.int .i64 T))
          exact bodyPost_ret (v := bd E 0 T) (by simp [results, Tryz.results148, go_sem, u0, u1, u2]) rfl ⟨rfl, gr_new (gr_new (gr_new G (by omega) _ _) (by omega) _ _) (by omega) _ _⟩
        · have m4 : decide (D < 0) = false := decide_eq_false hD
          have hz : Z = D := by rw [← hZ.out, if_neg (fun e => hD e.2)]
          subst hz
          clear hZ hE
          go_upto_region 13 with fail
          generalize wb = wc at *
          clear c0 c1 c2 d0 d1 d2 f0 f1 f2
          obtain ⟨x, rfl, _, cx⟩ := (ho.kept G) 6 (by have := H7.out.1; omega)
          obtain ⟨c0, c1, c2, _, _, _⟩ := three K
          have hl6 : 6 < o.length := by have := H7.out.1; omega
          have hl6i : (6 : Int) < (o.length : Int) := by omega
          have hl6d : decide ((6 : Int) < (o.length : Int)) = true := decide_eq_true hl6i
          have e0 : ∀ d os, (Go.Sort.grow (redrawn wc d) os).cell? ⟨w.heap.size, 2, none⟩ = some (.int .i64 s) := cell_regrown c2
          have e1 : ∀ d os, (Go.Sort.grow (redrawn wc d) os).cell? (x.add 6) = some (.int .i64 (nth o 6)) := cell_regrown cx
          have e2 := e1
          simp [Addr.add] at e2
          clear c0 c1 c2 cx
          refine region_below_tail 8 (by kernel_rfl) (by kernel_rfl) ?_
          simp only [List.take_succ_cons, List.take_zero, List.drop_succ_cons, List.drop_zero]
          repeat (quiet_step (first | (go_at_call 169; with_reducible exact rg_same (cQ _)) | (go_at_call 170; with_reducible exact rg_same (cT _)) | fail))
          refine wpQuiet_nil ?_
          intro _ hw'
          obtain ⟨⟨dq, osq⟩, hw''⟩ := hw'
          subst hw''
          have gq := gr_rg wc dq osq
          replace G := gr_trans G gq
          replace D1 := D1.grown gq (by simp)
          replace R := R.grown gq (by simp)
          clear gq e0 e1 e2
          generalize Go.Sort.grow (redrawn wc dq) osq = wd at *
          obtain ⟨d0, d1, d2, f0, f1, f2⟩ := three D1
          go_upto_region 14 with fail
          replace D1 := D1.put 2 (.int .i64 T) (cs' := cs3 E Z T) rfl
          replace R := R.set_other (g' := q) (by omega) 2 (.int .i64 T)
          replace G := gr_new G (show w.heap.size ≤ q by omega) 2 (.int .i64 T)
          clear d0 d1 d2 f0 f1 f2
          generalize wd.setCell ⟨q, 2, none⟩ (.int .i64 T) = we at *
          obtain ⟨d0, d1, d2, f0, f1, f2⟩ := three D1
          obtain ⟨k0, k1, k2, p0, p1, p2⟩ := three R
          go_wp2_with fail
          obtain ⟨u0, u1, u2, _, _, _⟩ := three (set3 R (.int .i64 E) (.int .i64 Z) (.int .i64 T))
          exact bodyPost_ret (v := bd E Z T) (by simp [results, Tryz.results148, go_sem, u0, u1, u2]) rfl ⟨rfl, gr_new (gr_new (gr_new G (by omega) _ _) (by omega) _ _) (by omega) _ _⟩
      · have m1 : (E == 0) = false := beq_eq_false_iff_ne.2 hE
        have m3 : decide (E = 0) = false := decide_eq_false hE
        have hz : Z = D := by rw [← hZ.out, if_neg (fun e => hE e.1)]
        subst hz
        clear hZ hE
        go_upto_region 13 with fail
        generalize wb = wc at *
        clear c0 c1 c2 d0 d1 d2 f0 f1 f2
        obtain ⟨x, rfl, _, cx⟩ := (ho.kept G) 6 (by have := H7.out.1; omega)
        obtain ⟨c0, c1, c2, _, _, _⟩ := three K
        have hl6 : 6 < o.length := by have := H7.out.1; omega
        have hl6i : (6 : Int) < (o.length : Int) := by omega
        have hl6d : decide ((6 : Int) < (o.length : Int)) = true := decide_eq_true hl6i
        have e0 : ∀ d os, (Go.Sort.grow (redrawn wc d) os).cell? ⟨w.heap.size, 2, none⟩ = some (.int .i64 s) := cell_regrown c2
        have e1 : ∀ d os, (Go.Sort.grow (redrawn wc d) os).cell? (x.add 6) = some (.int .i64 (nth o 6)) := cell_regrown cx
        have e2 := e1
        simp [Addr.add] at e2
        clear c0 c1 c2 cx
        refine region_below_tail 8 (by kernel_rfl) (by kernel_rfl) ?_
        simp only [List.take_succ_cons, List.take_zero, List.drop_succ_cons, List.drop_zero]
        repeat (quiet_step (first | (go_at_call 169; with_reducible exact rg_same (cQ _)) | (go_at_call 170; with_reducible exact rg_same (cT _)) | fail))
        refine wpQuiet_nil ?_
        intro _ hw'
        obtain ⟨⟨dq, osq⟩, hw''⟩ := hw'
        subst hw''
        have gq := gr_rg wc dq osq
        replace G := gr_trans G gq
        replace D1 := D1.grown gq (by simp)
        replace R := R.grown gq (by simp)
        clear gq e0 e1 e2
        generalize Go.Sort.grow (redrawn wc dq) osq = wd at *
        obtain ⟨d0, d1, d2, f0, f1, f2⟩ := three D1
        go_upto_region 14 with fail
        replace D1 := D1.put 2 (.int .i64 T) (cs' := cs3 E Z T) rfl
        replace R := R.set_other (g' := q) (by omega) 2 (.int .i64 T)
        replace G := gr_new G (show w.heap.size ≤ q by omega) 2 (.int .i64 T)
        clear d0 d1 d2 f0 f1 f2
        generalize wd.setCell ⟨q, 2, none⟩ (.int .i64 T) = we at *
        obtain ⟨d0, d1, d2, f0, f1, f2⟩ := three D1
        obtain ⟨k0, k1, k2, p0, p1, p2⟩ := three R
        go_wp2_with fail
        obtain ⟨u0, u1, u2, _, _, _⟩ := three (set3 R (.int .i64 E) (.int .i64 Z) (.int .i64 T))
        exact bodyPost_ret (v := bd E Z T) (by simp [results, Tryz.results148, go_sem, u0, u1, u2]) rfl ⟨rfl, gr_new (gr_new (gr_new G (by omega) _ _) (by omega) _ _) (by omega) _ _⟩
end Go.Proofs.YtdikhdfpcipdbaaGreatDoor.bo

