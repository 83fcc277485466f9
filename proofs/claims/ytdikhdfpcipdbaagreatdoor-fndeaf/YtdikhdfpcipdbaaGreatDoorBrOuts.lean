/- What is wished for, and what the fans and the push are to have: of the model, at right facts. -/
import Derived.Test.YtdikhdfpcipdbaaGreatDoorBrCopy
import Derived.Test.YtdikhdfpcipdbaaGreatDoorBrZero
import Derived.Test.YtdikhdfpcipdbaaGreatDoorShRow
import Derived.Test.YtdikhdfpcipdbaaGreatDoorBlBlend
import Derived.Test.YtdikhdfpcipdbaaGreatDoorBlLift
import Derived.Test.YtdikhdfpcipdbaaGreatDoorMd2
namespace Go.Proofs.YtdikhdfpcipdbaaGreatDoor.br
open Go.ChangeShapes Go.WideShapes Go.ChangeAt Go.RowKit
open Go.Proofs.YtdikhdfpcipdbaaGreatDoor.nums Go.Proofs.YtdikhdfpcipdbaaGreatDoor.mem
open Go.Proofs.YtdikhdfpcipdbaaGreatDoor.tab (Ret wpList_make_has)
open Go.Proofs.YtdikhdfpcipdbaaGreatDoor.md (Fx fac cs8 factsOk inAir)
open Go.Proofs.YtdikhdfpcipdbaaGreatDoor.sh (dem okD shared RetRow)
open Go.Proofs.YtdikhdfpcipdbaaGreatDoor.il (nth Ints Own RetI IRow vals_snoc row_base gr_own)
set_option linter.unusedVariables false

def lift (f : Fx) : Int := if f.ho = true then btw (500 - 2 * (f.h - 400)) 200 800 else 500
def wish (f : Fx) : Int := if (cas.staysIn f.c).length = 0 then 0 else (lift f * 6).tdiv ((cas.staysIn f.c).length : Int)
theorem lift_in (f : Fx) : 200 ≤ lift f ∧ lift f ≤ 800 := by
  unfold lift
  split
  · unfold btw; omega
  · omega
theorem facts_in {f : Fx} (h : factsOk f = true) : (-1000000 ≤ f.sp ∧ f.sp ≤ 1000000) ∧ (-1000000 ≤ f.h ∧ f.h ≤ 1000000) ∧ cas.caseOk f.c = true ∧ (0 ≤ f.wn ∧ f.wn ≤ 2) ∧ (0 ≤ f.tm ∧ f.tm ≤ 1000) := by
  unfold factsOk at h
  simp only [Bool.and_eq_true] at h
  obtain ⟨h1, h2, h3, h4, h5⟩ := h
  unfold inb at h1 h2 h4 h5
  simp at h1 h2 h4 h5
  exact ⟨h1, h2, h3, h4, h5⟩

set_option maxRecDepth 100000 in
set_option maxHeartbeats 2000000 in
theorem specWish (f : Fx) (w : World) (hf : factsOk f = true) : Calls Tryz.prog 177 #[fac f] w (sh.RetD (wish f) 0 0 w) := by
  obtain ⟨_, hh, _, _, _⟩ := facts_in hf
  have K := (Has.fresh w 35 (cs8 f)).alloc (Obj.cells #[.int .i64 0, .int .i64 0, .int .i64 0] 234)
  have R := Has.fresh (w.alloc (Obj.cells (cs8 f) 35)) 234 #[.int .i64 0, .int .i64 0, .int .i64 0]
  have g0 := gr_alloc (World.grownBy_alloc w (Obj.cells (cs8 f) 35) none) (Obj.cells #[.int .i64 0, .int .i64 0, .int .i64 0] 234)
  simp only [World.size_alloc] at R
  have hl := lift_in f
  have cB := fun W => fix.specBetween (500 - 2 * (f.h - 400)) 200 800 W
  have cS := fun W => cas.specStaysIn f.c W
  have hN6 : (cas.staysIn f.c).length ≤ 6 := cas.in_len f.c
  obtain ⟨L, hL⟩ : ∃ L, lift f = L := ⟨_, rfl⟩
  obtain ⟨X, hX⟩ : ∃ X, wish f = X := ⟨_, rfl⟩
  have hW := Lib.hid hX
  rw [hX]
  unfold wish at hX
  rw [hL] at hX hl
  obtain ⟨c0, c1, c2, c3, c4, c5, c6, c7⟩ := md.eight K
  generalize cas.staysIn f.c = N at *
  replace hX := Lib.hid hX
  clear hf
  cases hho : f.ho
  · have e : L = 500 := by rw [← hL]; unfold lift; rw [hho]; rfl
    rw [hho] at c3
    clear hho hL cB
    go_enter Tryz.func177, Tryz.ntmps177
    go_wp2_with fail
    refine (cS _).mono ?_
    rintro e w1 ⟨a, cap, rfl, r, o, _⟩
    replace K := K.grown r (by simp)
    replace R := R.grown r (by simp)
    replace g0 := gr_trans g0 r
    obtain ⟨d0, d1, d2, e0, e1, e2⟩ := rd.three R
    clear c0 c1 c2 c3 c4 c5 c6 c7 r
    by_cases hN : N.length = 0
    · have n0 : ((N.length : Int) == 0) = true := by simp [hN]
      have n0' : decide ((N.length : Int) = 0) = true := by simp [hN]
      have e : X = 0 := by rw [← hX.out, if_pos hN]
      subst e
      clear hN
      go_wp2_with fail
      obtain ⟨t0, t1, t2, _, _, _⟩ := rd.three (rd.set3 R (.int .i64 0) (.int .i64 0) (.int .i64 0))
      exact bodyPost_ret (v := dem 0 0 0) (by simp [results, Tryz.results177, go_sem, t0, t1, t2]) rfl ⟨rfl, gr_new (gr_new (gr_new g0 (by omega) _ _) (by omega) _ _) (by omega) _ _⟩
    · have n0 : ((N.length : Int) == 0) = false := beq_eq_false_iff_ne.2 (by omega)
      have n0' : decide ((N.length : Int) = 0) = false := decide_eq_false (by omega)
      have e := hX.out
      rw [if_neg hN] at e
      have hn1 : (1 : Int) ≤ (N.length : Int) := by omega
      have hn2 : (N.length : Int) ≤ 6 := by omega
      have hnz : (N.length : Int) ≠ 0 := by omega
      have b1 : 0 ≤ (L * 6).tdiv (N.length : Int) ∧ (L * 6).tdiv (N.length : Int) ≤ 4800 := by
        have h0 : 0 ≤ L * 6 := by omega
        rw [Int.tdiv_eq_ediv_of_nonneg h0]
        constructor
        · exact Int.ediv_nonneg h0 (by omega)
        · exact Int.le_trans (Int.ediv_le_self _ h0) (by omega)
      rw [e] at b1
      rw [show L * 6 = 3000 by omega] at e
      clear hN
      go_wp2_with fail
      obtain ⟨t0, t1, t2, _, _, _⟩ := rd.three (rd.set3 R (.int .i64 X) (.int .i64 0) (.int .i64 0))
      exact bodyPost_ret (v := dem X 0 0) (by simp [results, Tryz.results177, go_sem, t0, t1, t2]) rfl ⟨rfl, gr_new (gr_new (gr_new g0 (by omega) _ _) (by omega) _ _) (by omega) _ _⟩
  · have e : L = btw (500 - 2 * (f.h - 400)) 200 800 := by rw [← hL]; unfold lift; rw [hho]; rfl
    rw [hho] at c3
    rw [← e] at cB
    clear hho hL e
    go_enter Tryz.func177, Tryz.ntmps177
    go_wp2_with fail
    refine (cB _).mono ?_
    rintro e w1 ⟨rfl, rfl⟩
    go_wp2_with fail
    refine (cS _).mono ?_
    rintro e w1 ⟨a, cap, rfl, r, o, _⟩
    replace K := K.grown r (by simp)
    replace R := R.grown r (by simp)
    replace g0 := gr_trans g0 r
    obtain ⟨d0, d1, d2, e0, e1, e2⟩ := rd.three R
    clear c0 c1 c2 c3 c4 c5 c6 c7 r
    by_cases hN : N.length = 0
    · have n0 : ((N.length : Int) == 0) = true := by simp [hN]
      have n0' : decide ((N.length : Int) = 0) = true := by simp [hN]
      have e : X = 0 := by rw [← hX.out, if_pos hN]
      subst e
      clear hN
      go_wp2_with fail
      obtain ⟨t0, t1, t2, _, _, _⟩ := rd.three (rd.set3 R (.int .i64 0) (.int .i64 0) (.int .i64 0))
      exact bodyPost_ret (v := dem 0 0 0) (by simp [results, Tryz.results177, go_sem, t0, t1, t2]) rfl ⟨rfl, gr_new (gr_new (gr_new g0 (by omega) _ _) (by omega) _ _) (by omega) _ _⟩
    · have n0 : ((N.length : Int) == 0) = false := beq_eq_false_iff_ne.2 (by omega)
      have n0' : decide ((N.length : Int) = 0) = false := decide_eq_false (by omega)
      have e := hX.out
      rw [if_neg hN] at e
      have hn1 : (1 : Int) ≤ (N.length : Int) := by omega
      have hn2 : (N.length : Int) ≤ 6 := by omega
      have hnz : (N.length : Int) ≠ 0 := by omega
      have b1 : 0 ≤ (L * 6).tdiv (N.length : Int) ∧ (L * 6).tdiv (N.length : Int) ≤ 4800 := by
        have h0 : 0 ≤ L * 6 := by omega
        rw [Int.tdiv_eq_ediv_of_nonneg h0]
        constructor
        · exact Int.ediv_nonneg h0 (by omega)
        · exact Int.le_trans (Int.ediv_le_self _ h0) (by omega)
      rw [e] at b1
      clear hN
      go_wp2_with fail
      obtain ⟨t0, t1, t2, _, _, _⟩ := rd.three (rd.set3 R (.int .i64 X) (.int .i64 0) (.int .i64 0))
      exact bodyPost_ret (v := dem X 0 0) (by simp [results, Tryz.results177, go_sem, t0, t1, t2]) rfl ⟨rfl, gr_new (gr_new (gr_new g0 (by omega) _ _) (by omega) _ _) (by omega) _ _⟩

theorem wish_in (f : Fx) : 0 ≤ wish f ∧ wish f ≤ 4800 := by
  have hl := lift_in f
  unfold wish
  split
  · omega
  · have h0 : 0 ≤ lift f * 6 := by omega
    rw [Int.tdiv_eq_ediv_of_nonneg h0]
    constructor
    · exact Int.ediv_nonneg h0 (by omega)
    · exact Int.le_trans (Int.ediv_le_self _ h0) (by omega)
theorem bl_zero (l s : Int) : bl.bl l 0 0 s 0 = 0 := by
  unfold bl.bl
  split
  · have := bl.cut_le s 0 (by omega) (by omega)
    omega
  · rfl
/-- The lift that is shared, and what the fans and the push are to have. -/
def outL (f : Fx) : Int := if f.so = true then bl.bl (wish f) 0 0 f.sp (wish f) else wish f
def outsOf (m : Int) (f : Fx) : List Int := if inAir m = true then shared f.c (outL f) 0 0 ++ [if m = 2 ∨ m = 3 then bl.push m f.sp else 0] else List.replicate 7 0
theorem outL_in (f : Fx) : -4800 ≤ outL f ∧ outL f ≤ 4800 := by
  have hw := wish_in f
  unfold outL
  split
  · unfold bl.bl
    split
    · have := bl.cut_le f.sp (wish f) (by omega) (by omega)
      omega
    · omega
  · omega
theorem shared_len {c l r p : Int} (h : (cas.caseOk c && okD l r p) = true) : (shared c l r p).length = 6 := by rw [sh.shared_yes h]; simp [sh.shared6]
theorem okD_of {l : Int} (h : -4800 ≤ l ∧ l ≤ 4800) : okD l 0 0 = true := by
  unfold sh.okD inb
  simp; omega

set_option maxRecDepth 100000 in
set_option maxHeartbeats 4000000 in
theorem specOuts (m : Int) (f : Fx) (w : World) (hf : factsOk f = true) : Calls Tryz.prog 165 #[.int .i64 m, fac f] w (RetI (outsOf m f) w) := by
  obtain ⟨_, _, hc, _, _⟩ := facts_in hf
  obtain ⟨i0, hi, hz0, hz1, hz2⟩ := info_parts il.infoInt
  have K := Has.fresh w 35 (cs8 f)
  have g0 := World.grownBy_alloc w (Obj.cells (cs8 f) 35) none
  have cA := fun W => md.specInAir m W
  cases hA : inAir m
  · have e : outsOf m f = List.replicate 7 0 := by unfold outsOf; rw [hA]; simp
    rw [hA] at cA
    rw [e]
    have R := Has.fresh (w.alloc (Obj.cells (cs8 f) 35)) 2 (madeCells (Value.cells (.int .i64 0)) (7 * 1))
    have g1 := gr_alloc g0 (Obj.cells (madeCells (Value.cells (.int .i64 0)) (7 * 1)) 2)
    go_enter Tryz.func165, Tryz.ntmps165
    go_wp2_with fail
    refine (cA _).mono ?_
    rintro e w1 ⟨rfl, rfl⟩
    go_wp2_with (at_make; refine wpList_make_has _ rfl _ _ _ rfl 2 i0 _ 1 Tryz.underlying25 hi hz0 hz1 .i64 .i64 _ _ 7 rfl rfl rfl rfl (by rw [hz2]; omega) (by unfold maxLen; omega) ?_)
    go_ret
    rw [World.size_alloc] at R
    exact ⟨some ⟨w.heap.size + 1, 0, none⟩, 7, rfl, g1, own_zero7 R, fun b h => by rw [il.blk_some (by simp)] at h; injection h with h; omega⟩
  · have hl := outL_in f
    have e : outsOf m f = shared f.c (outL f) 0 0 ++ [if m = 2 ∨ m = 3 then bl.push m f.sp else 0] := by unfold outsOf; rw [hA]; simp
    rw [hA] at cA
    have cW := fun W => specWish f W hf
    have cB : ∀ W, Calls Tryz.prog 178 #[dem (wish f) 0 0, .int .i64 f.sp] W (sh.RetD (bl.bl (wish f) 0 0 f.sp (wish f)) 0 0 W) := fun W => by
      have h := bl.specBlended (wish f) 0 0 f.sp W
      unfold bl.RetB at h
      rw [bl_zero] at h
      exact h
    have cP := fun W => bl.specPushFor m f.sp W
    have cS := fun W => sh.specSharedR f.c (outL f) 0 0 W hc (okD_of hl)
    have hlen : Hid ((shared f.c (outL f) 0 0).length = 6) := Lib.hid (shared_len (by rw [hc, okD_of hl]; rfl))
    obtain ⟨pu, hpu⟩ : ∃ pu, (if m = 2 ∨ m = 3 then bl.push m f.sp else 0) = pu := ⟨_, rfl⟩
    rw [hpu] at e
    rw [e]
    clear e hA
    generalize shared f.c (outL f) 0 0 = S at *
    obtain ⟨c0, c1, c2, c3, c4, c5, c6, c7⟩ := md.eight K
    go_enter Tryz.func165, Tryz.ntmps165
    go_wp2_with fail
    refine (cA _).mono ?_
    rintro e w1 ⟨rfl, rfl⟩
    go_wp2_with fail
    refine (cW _).mono ?_
    rintro e w1 ⟨rfl, r⟩
    replace K := (K.grown r (by simp)).alloc (Obj.cells #[.int .i64 (wish f), .int .i64 0, .int .i64 0] 234)
    have D := Has.fresh w1 234 #[.int .i64 (wish f), .int .i64 0, .int .i64 0]
    have lk : w.heap.size < w1.heap.size := Nat.lt_of_lt_of_le (by simp) r.size
    replace g0 := gr_alloc (gr_trans g0 r) (Obj.cells #[.int .i64 (wish f), .int .i64 0, .int .i64 0] 234)
    clear c0 c1 c2 c3 c4 c5 c6 c7 r cA cW
    obtain ⟨c0, c1, c2, c3, c4, c5, c6, c7⟩ := md.eight K
    obtain ⟨d0, d1, d2, e0, e1, e2⟩ := rd.three D
    cases hso : f.so
    · have hO : outL f = wish f := by unfold outL; rw [hso]; simp
      clear c0 c2 c3 c4 c5 c6 c7 d0 d1 d2 e0 e1 e2 c1
      rw [hO] at cS
      clear hO
      obtain ⟨c0, c1, c2, c3, c4, c5, c6, c7⟩ := md.eight K
      rw [hso] at c1
      obtain ⟨d0, d1, d2, e0, e1, e2⟩ := rd.three D
      by_cases h2 : m = 2
      · subst h2
        rw [if_pos (Or.inl rfl)] at hpu
        rw [hpu] at cP
        clear hpu
        go_wp2_with fail
        refine (cP _).mono ?_
        rintro e w3 ⟨rfl, rfl⟩
        go_wp2_with fail
        refine (cS _).mono ?_
        rintro e w4 ⟨a, cap, base, rfl, r, hrow, hb1, hb2⟩
        have hs0 := g0.size
        replace g0 := gr_trans g0 r
        clear c0 c1 c2 c3 c4 c5 c6 c7 d0 d1 d2 e0 e1 e2
        go_wp2_with (at_builtin; refine wpList_append_lies _ rfl _ _ _ rfl base 2 i0 _ 1 8 Tryz.underlying25 hi hz0 hz1 hz2 rfl (by omega) (.slice a S.length cap) S.length (il.vals S) rfl (hrow.alloc _) ⟨w4.heap.size, 0, none⟩ 1 1 [.int .i64 pu] rfl rfl (World.news_of_block (cs := #[.int .i64 pu]) (t := 2) (fr := (0, 0)) (heap_alloc_new w4 _)) (by simp [Value.oneCell']) (by omega) (by rw [hlen.out]; unfold maxLen; omega) (by rw [hlen.out]; omega) (by simp; omega) (w4.heap.size + 1) (by simp) ?_; intro gg cap1 w5 hown3 hgrow hat hlt3)
        go_wp2_with fail
        go_ret
        have hr5 : IRow w5 base (.slice (some ⟨gg, 0, none⟩) (S ++ [pu]).length cap1) (S ++ [pu]) := by unfold IRow; rw [vals_snoc]; simpa using hown3
        have hb6 := row_base hrow
        have hs : w.heap.size ≤ base := by omega
        exact ⟨some ⟨gg, 0, none⟩, cap1, by simp, gr_own (gr_alloc g0 _) hgrow (fun g hg => by have := hb6 g hg; omega), hr5.own, fun x e => by have := hr5.above e; omega⟩
      · by_cases h3 : m = 3
        · subst h3
          rw [if_pos (Or.inr rfl)] at hpu
          rw [hpu] at cP
          clear hpu
          go_wp2_with fail
          refine (cP _).mono ?_
          rintro e w3 ⟨rfl, rfl⟩
          go_wp2_with fail
          refine (cS _).mono ?_
          rintro e w4 ⟨a, cap, base, rfl, r, hrow, hb1, hb2⟩
          have hs0 := g0.size
          replace g0 := gr_trans g0 r
          clear c0 c1 c2 c3 c4 c5 c6 c7 d0 d1 d2 e0 e1 e2
          go_wp2_with (at_builtin; refine wpList_append_lies _ rfl _ _ _ rfl base 2 i0 _ 1 8 Tryz.underlying25 hi hz0 hz1 hz2 rfl (by omega) (.slice a S.length cap) S.length (il.vals S) rfl (hrow.alloc _) ⟨w4.heap.size, 0, none⟩ 1 1 [.int .i64 pu] rfl rfl (World.news_of_block (cs := #[.int .i64 pu]) (t := 2) (fr := (0, 0)) (heap_alloc_new w4 _)) (by simp [Value.oneCell']) (by omega) (by rw [hlen.out]; unfold maxLen; omega) (by rw [hlen.out]; omega) (by simp; omega) (w4.heap.size + 1) (by simp) ?_; intro gg cap1 w5 hown3 hgrow hat hlt3)
          go_wp2_with fail
          go_ret
          have hr5 : IRow w5 base (.slice (some ⟨gg, 0, none⟩) (S ++ [pu]).length cap1) (S ++ [pu]) := by unfold IRow; rw [vals_snoc]; simpa using hown3
          have hb6 := row_base hrow
          have hs : w.heap.size ≤ base := by omega
          exact ⟨some ⟨gg, 0, none⟩, cap1, by simp, gr_own (gr_alloc g0 _) hgrow (fun g hg => by have := hb6 g hg; omega), hr5.own, fun x e => by have := hr5.above e; omega⟩
        · rw [if_neg (show ¬ (m = 2 ∨ m = 3) by omega)] at hpu
          subst hpu
          have m2 : (m == 2) = false := beq_eq_false_iff_ne.2 h2
          have m3 : (m == 3) = false := beq_eq_false_iff_ne.2 h3
          have m2' : decide (m = 2) = false := decide_eq_false h2
          have m3' : decide (m = 3) = false := decide_eq_false h3
          go_wp2_with fail
          refine (cS _).mono ?_
          rintro e w4 ⟨a, cap, base, rfl, r, hrow, hb1, hb2⟩
          have hs0 := g0.size
          replace g0 := gr_trans g0 r
          clear c0 c1 c2 c3 c4 c5 c6 c7 d0 d1 d2 e0 e1 e2
          go_wp2_with (at_builtin; refine wpList_append_lies _ rfl _ _ _ rfl base 2 i0 _ 1 8 Tryz.underlying25 hi hz0 hz1 hz2 rfl (by omega) (.slice a S.length cap) S.length (il.vals S) rfl (hrow.alloc _) ⟨w4.heap.size, 0, none⟩ 1 1 [.int .i64 0] rfl rfl (World.news_of_block (cs := #[.int .i64 0]) (t := 2) (fr := (0, 0)) (heap_alloc_new w4 _)) (by simp [Value.oneCell']) (by omega) (by rw [hlen.out]; unfold maxLen; omega) (by rw [hlen.out]; omega) (by simp; omega) (w4.heap.size + 1) (by simp) ?_; intro gg cap1 w5 hown3 hgrow hat hlt3)
          go_wp2_with fail
          go_ret
          have hr5 : IRow w5 base (.slice (some ⟨gg, 0, none⟩) (S ++ [0]).length cap1) (S ++ [0]) := by unfold IRow; rw [vals_snoc]; simpa using hown3
          have hb6 := row_base hrow
          have hs : w.heap.size ≤ base := by omega
          exact ⟨some ⟨gg, 0, none⟩, cap1, by simp, gr_own (gr_alloc g0 _) hgrow (fun g hg => by have := hb6 g hg; omega), hr5.own, fun x e => by have := hr5.above e; omega⟩
    · have hO : outL f = bl.bl (wish f) 0 0 f.sp (wish f) := by unfold outL; rw [hso]; simp
      generalize bl.bl (wish f) 0 0 f.sp (wish f) = Q at *
      rw [hso] at c1
      go_wp2_with fail
      refine (cB _).mono ?_
      rintro e w2 ⟨rfl, r⟩
      have lw := r.size
      replace K := K.grown r (by simp)
      replace D := D.grown r (by simp)
      replace g0 := gr_trans g0 r
      clear c0 c1 c2 c3 c4 c5 c6 c7 d0 d1 d2 e0 e1 e2 r
      obtain ⟨d0, d1, d2, e0, e1, e2⟩ := rd.three D
      go_upto_region 7 with fail
      have ne : w.heap.size ≠ w1.heap.size := by omega
      replace K := ((K.set_other ne 0 (.int .i64 Q)).set_other ne 1 (.int .i64 0)).set_other ne 2 (.int .i64 0)
      replace D := rd.set3 D (.int .i64 Q) (.int .i64 0) (.int .i64 0)
      replace g0 := gr_new (gr_new (gr_new g0 (Nat.le_of_lt lk) 0 (.int .i64 Q)) (Nat.le_of_lt lk) 1 (.int .i64 0)) (Nat.le_of_lt lk) 2 (.int .i64 0)
      clear d0 d1 d2 e0 e1 e2 lw cB
      generalize ((w2.setCell ⟨w1.heap.size, 0, none⟩ (.int .i64 Q)).setCell ⟨w1.heap.size, 1, none⟩ (.int .i64 0)).setCell ⟨w1.heap.size, 2, none⟩ (.int .i64 0) = w3' at *
      rw [hO] at cS
      clear hO
      obtain ⟨c0, c1, c2, c3, c4, c5, c6, c7⟩ := md.eight K
      rw [hso] at c1
      obtain ⟨d0, d1, d2, e0, e1, e2⟩ := rd.three D
      by_cases h2 : m = 2
      · subst h2
        rw [if_pos (Or.inl rfl)] at hpu
        rw [hpu] at cP
        clear hpu
        go_wp2_with fail
        refine (cP _).mono ?_
        rintro e w3 ⟨rfl, rfl⟩
        go_wp2_with fail
        refine (cS _).mono ?_
        rintro e w4 ⟨a, cap, base, rfl, r, hrow, hb1, hb2⟩
        have hs0 := g0.size
        replace g0 := gr_trans g0 r
        clear c0 c1 c2 c3 c4 c5 c6 c7 d0 d1 d2 e0 e1 e2
        go_wp2_with (at_builtin; refine wpList_append_lies _ rfl _ _ _ rfl base 2 i0 _ 1 8 Tryz.underlying25 hi hz0 hz1 hz2 rfl (by omega) (.slice a S.length cap) S.length (il.vals S) rfl (hrow.alloc _) ⟨w4.heap.size, 0, none⟩ 1 1 [.int .i64 pu] rfl rfl (World.news_of_block (cs := #[.int .i64 pu]) (t := 2) (fr := (0, 0)) (heap_alloc_new w4 _)) (by simp [Value.oneCell']) (by omega) (by rw [hlen.out]; unfold maxLen; omega) (by rw [hlen.out]; omega) (by simp; omega) (w4.heap.size + 1) (by simp) ?_; intro gg cap1 w5 hown3 hgrow hat hlt3)
        go_wp2_with fail
        go_ret
        have hr5 : IRow w5 base (.slice (some ⟨gg, 0, none⟩) (S ++ [pu]).length cap1) (S ++ [pu]) := by unfold IRow; rw [vals_snoc]; simpa using hown3
        have hb6 := row_base hrow
        have hs : w.heap.size ≤ base := by omega
        exact ⟨some ⟨gg, 0, none⟩, cap1, by simp, gr_own (gr_alloc g0 _) hgrow (fun g hg => by have := hb6 g hg; omega), hr5.own, fun x e => by have := hr5.above e; omega⟩
      · by_cases h3 : m = 3
        · subst h3
          rw [if_pos (Or.inr rfl)] at hpu
          rw [hpu] at cP
          clear hpu
          go_wp2_with fail
          refine (cP _).mono ?_
          rintro e w3 ⟨rfl, rfl⟩
          go_wp2_with fail
          refine (cS _).mono ?_
          rintro e w4 ⟨a, cap, base, rfl, r, hrow, hb1, hb2⟩
          have hs0 := g0.size
          replace g0 := gr_trans g0 r
          clear c0 c1 c2 c3 c4 c5 c6 c7 d0 d1 d2 e0 e1 e2
          go_wp2_with (at_builtin; refine wpList_append_lies _ rfl _ _ _ rfl base 2 i0 _ 1 8 Tryz.underlying25 hi hz0 hz1 hz2 rfl (by omega) (.slice a S.length cap) S.length (il.vals S) rfl (hrow.alloc _) ⟨w4.heap.size, 0, none⟩ 1 1 [.int .i64 pu] rfl rfl (World.news_of_block (cs := #[.int .i64 pu]) (t := 2) (fr := (0, 0)) (heap_alloc_new w4 _)) (by simp [Value.oneCell']) (by omega) (by rw [hlen.out]; unfold maxLen; omega) (by rw [hlen.out]; omega) (by simp; omega) (w4.heap.size + 1) (by simp) ?_; intro gg cap1 w5 hown3 hgrow hat hlt3)
          go_wp2_with fail
          go_ret
          have hr5 : IRow w5 base (.slice (some ⟨gg, 0, none⟩) (S ++ [pu]).length cap1) (S ++ [pu]) := by unfold IRow; rw [vals_snoc]; simpa using hown3
          have hb6 := row_base hrow
          have hs : w.heap.size ≤ base := by omega
          exact ⟨some ⟨gg, 0, none⟩, cap1, by simp, gr_own (gr_alloc g0 _) hgrow (fun g hg => by have := hb6 g hg; omega), hr5.own, fun x e => by have := hr5.above e; omega⟩
        · rw [if_neg (show ¬ (m = 2 ∨ m = 3) by omega)] at hpu
          subst hpu
          have m2 : (m == 2) = false := beq_eq_false_iff_ne.2 h2
          have m3 : (m == 3) = false := beq_eq_false_iff_ne.2 h3
          have m2' : decide (m = 2) = false := decide_eq_false h2
          have m3' : decide (m = 3) = false := decide_eq_false h3
          go_wp2_with fail
          refine (cS _).mono ?_
          rintro e w4 ⟨a, cap, base, rfl, r, hrow, hb1, hb2⟩
          have hs0 := g0.size
          replace g0 := gr_trans g0 r
          clear c0 c1 c2 c3 c4 c5 c6 c7 d0 d1 d2 e0 e1 e2
          go_wp2_with (at_builtin; refine wpList_append_lies _ rfl _ _ _ rfl base 2 i0 _ 1 8 Tryz.underlying25 hi hz0 hz1 hz2 rfl (by omega) (.slice a S.length cap) S.length (il.vals S) rfl (hrow.alloc _) ⟨w4.heap.size, 0, none⟩ 1 1 [.int .i64 0] rfl rfl (World.news_of_block (cs := #[.int .i64 0]) (t := 2) (fr := (0, 0)) (heap_alloc_new w4 _)) (by simp [Value.oneCell']) (by omega) (by rw [hlen.out]; unfold maxLen; omega) (by rw [hlen.out]; omega) (by simp; omega) (w4.heap.size + 1) (by simp) ?_; intro gg cap1 w5 hown3 hgrow hat hlt3)
          go_wp2_with fail
          go_ret
          have hr5 : IRow w5 base (.slice (some ⟨gg, 0, none⟩) (S ++ [0]).length cap1) (S ++ [0]) := by unfold IRow; rw [vals_snoc]; simpa using hown3
          have hb6 := row_base hrow
          have hs : w.heap.size ≤ base := by omega
          exact ⟨some ⟨gg, 0, none⟩, cap1, by simp, gr_own (gr_alloc g0 _) hgrow (fun g hg => by have := hb6 g hg; omega), hr5.own, fun x e => by have := hr5.above e; omega⟩
end Go.Proofs.YtdikhdfpcipdbaaGreatDoor.br
