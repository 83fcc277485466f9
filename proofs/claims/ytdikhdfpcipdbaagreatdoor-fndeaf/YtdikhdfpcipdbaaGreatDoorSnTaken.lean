/- Chapter 8 of the program: Taken. -/
import Derived.Test.YtdikhdfpcipdbaaGreatDoorSnImpl
namespace Go.Proofs.YtdikhdfpcipdbaaGreatDoor.sane
open Go.ChangeShapes Go.WideShapes Go.ChangeAt Go.RowKit
open Go.Proofs.YtdikhdfpcipdbaaGreatDoor.nums Go.Proofs.YtdikhdfpcipdbaaGreatDoor.mem
open Go.Proofs.YtdikhdfpcipdbaaGreatDoor.tab (Ret quiet_w)
open Go.Proofs.YtdikhdfpcipdbaaGreatDoor.rd (okR okR_iff RetR)
set_option linter.unusedVariables false

/-- The three errors lie in three blocks; neither of the last two is the first. -/
structure ErrB (w : World) (n f q : Addr) : Prop where
  vars : Errs w n f q
  bn : ∃ t c, Has w n.block t c
  bf : ∃ t c, Has w f.block t c
  bq : ∃ t c, Has w q.block t c
  nf : f ≠ n
  nq : q ≠ n
theorem ErrB.kept {w w' : World} {n f q : Addr} (h : ErrB w n f q) (hg : w.grownBy w' none) : ErrB w' n f q :=
  ⟨h.vars.kept hg, by obtain ⟨t, c, h⟩ := h.bn; exact ⟨t, c, h.grown hg (by simp)⟩, by obtain ⟨t, c, h⟩ := h.bf; exact ⟨t, c, h.grown hg (by simp)⟩, by obtain ⟨t, c, h⟩ := h.bq; exact ⟨t, c, h.grown hg (by simp)⟩, h.nf, h.nq⟩
theorem ErrB.other {w : World} {n f q y : Addr} (h : ErrB w n f q) (hy : y = f ∨ y = q) : y ≠ n ∧ (∃ t c, Has w y.block t c) := by
  rcases hy with rfl | rfl
  · exact ⟨h.nf, h.bf⟩
  · exact ⟨h.nq, h.bq⟩
theorem ErrT.kept {w w' : World} (h : ErrT w) (hg : w.grownBy w' none) : ErrT w' := cell_kept h hg
theorem four {w : World} {g : Nat} {t : TypeId} {a b c d : Value} (h : Has w g t #[a, b, c, d]) : w.cell? ⟨g, 0, none⟩ = some a ∧ w.cell? ⟨g, 1, none⟩ = some b ∧ w.cell? ⟨g, 2, none⟩ = some c ∧ w.cell? ⟨g, 3, none⟩ = some d ∧ w.frozen? ⟨g, 0, none⟩ = false ∧ w.frozen? ⟨g, 1, none⟩ = false ∧ w.frozen? ⟨g, 2, none⟩ = false ∧ w.frozen? ⟨g, 3, none⟩ = false :=
  ⟨h.cell 0, h.cell 1, h.cell 2, h.cell 3, h.frozen 0, h.frozen 1, h.frozen 2, h.frozen 3⟩

set_option maxHeartbeats 1000000 in
theorem implTaken (lo hi ra v a x : Int) (o : Bool) (n f q : Addr) (w : World) (he : ErrB w n f q) (ht : ErrT w) : Calls Tryz.prog 94 #[.agg #[.int .i64 lo, .int .i64 hi, .int .i64 ra], .agg #[.int .i64 v, .int .i64 a, .bool o], .int .i64 x] w (RetR (taken lo hi ra v a x o) w) := by
  have aG := ((Has.fresh w 72 #[.int .i64 lo, .int .i64 hi, .int .i64 ra]).alloc (Obj.cells #[.int .i64 v, .int .i64 a, .bool o] 42)).alloc (Obj.cells #[.int .i64 0, .int .i64 0, .bool false] 42)
  have aR := (rd.fresh1 w (Obj.cells #[.int .i64 lo, .int .i64 hi, .int .i64 ra] 72) 42 #[.int .i64 v, .int .i64 a, .bool o]).alloc (Obj.cells #[.int .i64 0, .int .i64 0, .bool false] 42)
  have aZ := rd.fresh1 (w.alloc (Obj.cells #[.int .i64 lo, .int .i64 hi, .int .i64 ra] 72)) (Obj.cells #[.int .i64 v, .int .i64 a, .bool o] 42) 42 #[.int .i64 0, .int .i64 0, .bool false]
  have g0 : w.grownBy (((w.alloc (Obj.cells #[.int .i64 lo, .int .i64 hi, .int .i64 ra] 72)).alloc (Obj.cells #[.int .i64 v, .int .i64 a, .bool o] 42)).alloc (Obj.cells #[.int .i64 0, .int .i64 0, .bool false] 42)) none := gr_alloc (gr_alloc (World.grownBy_alloc _ _ _) _) _
  simp only [World.size_alloc] at aZ
  have hE := he.kept g0
  have hT := ht.kept g0
  rcases Bool.eq_false_or_eq_true (okG lo hi ra && okR (v, a, o)) with h | h
  rotate_left
  · rw [taken_no h]
    go_enter Tryz.func94, Tryz.ntmps94
    go_wp2_with fail
    refine (implWhyNot lo hi ra v a x o n f q _ hE.vars).mono ?_
    rintro e w1 ⟨rfl, hg⟩
    have s1 := hg.size
    simp only [World.size_alloc] at s1
    replace hg := gr_alloc hg (Obj.cells #[.int .i64 0, .int .i64 0, .bool false, .nilIface] 150)
    have aF := Has.fresh w1 150 #[.int .i64 0, .int .i64 0, .bool false, .nilIface]
    replace aG := aG.grown hg (by simp)
    replace aR := aR.grown hg (by simp)
    replace aZ := aZ.grown hg (by simp)
    replace g0 := gr_trans g0 hg
    replace hE := hE.kept hg
    replace hT := hT.kept hg
    clear hg
    obtain ⟨c0, c1, c2, cf0, cf1, cf2⟩ := rd.three aG
    obtain ⟨d0, d1, d2, df0, df1, df2⟩ := rd.three aR
    obtain ⟨z0, z1, z2, zf0, zf1, zf2⟩ := rd.three aZ
    obtain ⟨f0, f1, f2, f3, ff0, ff1, ff2, ff3⟩ := four aF
    have en := hE.vars.cn
    rw [whyE_no h]
    go_wp2_with fail
    refine (is_same v a o n _).mono ?_
    rintro e w2 ⟨rfl, hg⟩
    have s2 := aF.lt
    replace aG := aG.grown hg (by simp)
    replace aR := aR.grown hg (by simp)
    replace aZ := aZ.grown hg (by simp)
    replace aF := aF.grown hg (by simp)
    replace g0 := gr_trans g0 hg
    replace hE := hE.kept hg
    replace hT := hT.kept hg
    clear hg
    clear c0 c1 c2 cf0 cf1 cf2 d0 d1 d2 df0 df1 df2 z0 z1 z2 zf0 zf1 zf2 f0 f1 f2 f3 ff0 ff1 ff2 ff3 en
    obtain ⟨c0, c1, c2, cf0, cf1, cf2⟩ := rd.three aG
    obtain ⟨d0, d1, d2, df0, df1, df2⟩ := rd.three aR
    obtain ⟨z0, z1, z2, zf0, zf1, zf2⟩ := rd.three aZ
    obtain ⟨f0, f1, f2, f3, ff0, ff1, ff2, ff3⟩ := four aF
    have en := hE.vars.cn
    go_wp2_with fail
    obtain ⟨k0, k1, k2, _, _, _⟩ := rd.three (rd.set3 aZ (.int .i64 (0)) (.int .i64 (0)) (.bool false))
    exact bodyPost_ret (v := .agg #[.int .i64 (0), .int .i64 (0), .bool false]) (by simp [results, Tryz.results94, go_sem, k0, k1, k2]) rfl ⟨rfl, gr_new (gr_new (gr_new g0 (by omega) _ _) (by omega) _ _) (by omega) _ _⟩
  obtain ⟨h0, h1⟩ := Bool.and_eq_true_iff.1 h
  rcases Bool.eq_false_or_eq_true (saneB lo hi ra v a x o) with h2 | h2
  · rw [taken_got h0 h1 h2]
    go_enter Tryz.func94, Tryz.ntmps94
    go_wp2_with fail
    refine (implWhyNot lo hi ra v a x o n f q _ hE.vars).mono ?_
    rintro e w1 ⟨rfl, hg⟩
    have s1 := hg.size
    simp only [World.size_alloc] at s1
    replace hg := gr_alloc hg (Obj.cells #[.int .i64 0, .int .i64 0, .bool false, .nilIface] 150)
    have aF := Has.fresh w1 150 #[.int .i64 0, .int .i64 0, .bool false, .nilIface]
    replace aG := aG.grown hg (by simp)
    replace aR := aR.grown hg (by simp)
    replace aZ := aZ.grown hg (by simp)
    replace g0 := gr_trans g0 hg
    replace hE := hE.kept hg
    replace hT := hT.kept hg
    clear hg
    obtain ⟨c0, c1, c2, cf0, cf1, cf2⟩ := rd.three aG
    obtain ⟨d0, d1, d2, df0, df1, df2⟩ := rd.three aR
    obtain ⟨z0, z1, z2, zf0, zf1, zf2⟩ := rd.three aZ
    obtain ⟨f0, f1, f2, f3, ff0, ff1, ff2, ff3⟩ := four aF
    have en := hE.vars.cn
    rw [whyE_nil h2]
    go_wp2_with fail
    refine (is_nil n _).mono ?_
    rintro e w2 ⟨rfl, hg⟩
    have s2 := aF.lt
    replace aG := aG.grown hg (by simp)
    replace aR := aR.grown hg (by simp)
    replace aZ := aZ.grown hg (by simp)
    replace aF := aF.grown hg (by simp)
    replace g0 := gr_trans g0 hg
    replace hE := hE.kept hg
    replace hT := hT.kept hg
    clear hg
    clear c0 c1 c2 cf0 cf1 cf2 d0 d1 d2 df0 df1 df2 z0 z1 z2 zf0 zf1 zf2 f0 f1 f2 f3 ff0 ff1 ff2 ff3 en
    obtain ⟨c0, c1, c2, cf0, cf1, cf2⟩ := rd.three aG
    obtain ⟨d0, d1, d2, df0, df1, df2⟩ := rd.three aR
    obtain ⟨z0, z1, z2, zf0, zf1, zf2⟩ := rd.three aZ
    obtain ⟨f0, f1, f2, f3, ff0, ff1, ff2, ff3⟩ := four aF
    have en := hE.vars.cn
    go_wp2_with fail
    refine (as_nil _ _).mono ?_
    rintro e w3 ⟨rfl, hg⟩
    have s3 := aF.lt
    replace aG := aG.grown hg (by simp)
    replace aR := aR.grown hg (by simp)
    replace aZ := aZ.grown hg (by simp)
    replace aF := aF.grown hg (by simp)
    replace g0 := gr_trans g0 hg
    replace hE := hE.kept hg
    replace hT := hT.kept hg
    clear hg
    clear c0 c1 c2 cf0 cf1 cf2 d0 d1 d2 df0 df1 df2 z0 z1 z2 zf0 zf1 zf2 f0 f1 f2 f3 ff0 ff1 ff2 ff3 en
    obtain ⟨c0, c1, c2, cf0, cf1, cf2⟩ := rd.three aG
    obtain ⟨d0, d1, d2, df0, df1, df2⟩ := rd.three aR
    obtain ⟨z0, z1, z2, zf0, zf1, zf2⟩ := rd.three aZ
    obtain ⟨f0, f1, f2, f3, ff0, ff1, ff2, ff3⟩ := four aF
    have en := hE.vars.cn
    go_wp2_with fail
    refine (rd.implGot _ _ _ _ _).mono ?_
    rw [got_in h0 h1 h2]
    rintro e w4 ⟨rfl, hg⟩
    have s4 := aF.lt
    replace aG := aG.grown hg (by simp)
    replace aR := aR.grown hg (by simp)
    replace aZ := aZ.grown hg (by simp)
    replace aF := aF.grown hg (by simp)
    replace g0 := gr_trans g0 hg
    replace hE := hE.kept hg
    replace hT := hT.kept hg
    clear hg
    clear c0 c1 c2 cf0 cf1 cf2 d0 d1 d2 df0 df1 df2 z0 z1 z2 zf0 zf1 zf2 f0 f1 f2 f3 ff0 ff1 ff2 ff3 en
    obtain ⟨c0, c1, c2, cf0, cf1, cf2⟩ := rd.three aG
    obtain ⟨d0, d1, d2, df0, df1, df2⟩ := rd.three aR
    obtain ⟨z0, z1, z2, zf0, zf1, zf2⟩ := rd.three aZ
    obtain ⟨f0, f1, f2, f3, ff0, ff1, ff2, ff3⟩ := four aF
    have en := hE.vars.cn
    go_wp2_with fail
    obtain ⟨k0, k1, k2, _, _, _⟩ := rd.three (rd.set3 aZ (.int .i64 (x)) (.int .i64 (0)) (.bool true))
    exact bodyPost_ret (v := .agg #[.int .i64 (x), .int .i64 (0), .bool true]) (by simp [results, Tryz.results94, go_sem, k0, k1, k2]) rfl ⟨rfl, gr_new (gr_new (gr_new g0 (by omega) _ _) (by omega) _ _) (by omega) _ _⟩
  · rw [taken_old h0 h1 h2]
    obtain ⟨y, hy, hyE⟩ := whyE_ref (n := n) (f := f) (q := q) h0 h1 h2
    go_enter Tryz.func94, Tryz.ntmps94
    go_wp2_with fail
    refine (implWhyNot lo hi ra v a x o n f q _ hE.vars).mono ?_
    rintro e w1 ⟨rfl, hg⟩
    have s1 := hg.size
    simp only [World.size_alloc] at s1
    replace hg := gr_alloc hg (Obj.cells #[.int .i64 0, .int .i64 0, .bool false, .nilIface] 150)
    have aF := Has.fresh w1 150 #[.int .i64 0, .int .i64 0, .bool false, .nilIface]
    replace aG := aG.grown hg (by simp)
    replace aR := aR.grown hg (by simp)
    replace aZ := aZ.grown hg (by simp)
    replace g0 := gr_trans g0 hg
    replace hE := hE.kept hg
    replace hT := hT.kept hg
    clear hg
    obtain ⟨c0, c1, c2, cf0, cf1, cf2⟩ := rd.three aG
    obtain ⟨d0, d1, d2, df0, df1, df2⟩ := rd.three aR
    obtain ⟨z0, z1, z2, zf0, zf1, zf2⟩ := rd.three aZ
    obtain ⟨f0, f1, f2, f3, ff0, ff1, ff2, ff3⟩ := four aF
    have en := hE.vars.cn
    rw [hyE]
    go_wp2_with fail
    obtain ⟨tn, cn, bn⟩ := hE.bn
    obtain ⟨hny, ty, cy, by1⟩ := hE.other hy
    refine (is_other v a o y n cy cn ty tn _ hny by1 bn).mono ?_
    rintro e w2 ⟨rfl, hg⟩
    have s2 := aF.lt
    replace aG := aG.grown hg (by simp)
    replace aR := aR.grown hg (by simp)
    replace aZ := aZ.grown hg (by simp)
    replace aF := aF.grown hg (by simp)
    replace g0 := gr_trans g0 hg
    replace hE := hE.kept hg
    replace hT := hT.kept hg
    clear hg
    clear c0 c1 c2 cf0 cf1 cf2 d0 d1 d2 df0 df1 df2 z0 z1 z2 zf0 zf1 zf2 f0 f1 f2 f3 ff0 ff1 ff2 ff3 en
    obtain ⟨c0, c1, c2, cf0, cf1, cf2⟩ := rd.three aG
    obtain ⟨d0, d1, d2, df0, df1, df2⟩ := rd.three aR
    obtain ⟨z0, z1, z2, zf0, zf1, zf2⟩ := rd.three aZ
    obtain ⟨f0, f1, f2, f3, ff0, ff1, ff2, ff3⟩ := four aF
    have en := hE.vars.cn
    go_wp2_with fail
    refine (as_hit v a o y _ _ _ _ _ _ _ hT aF).mono ?_
    rintro e w3 ⟨rfl, hg, aF'⟩
    replace aZ := aZ.grown hg (by simp; omega)
    replace g0 := gr_past g0 hg (by omega)
    clear hg
    clear c0 c1 c2 cf0 cf1 cf2 d0 d1 d2 df0 df1 df2 z0 z1 z2 zf0 zf1 zf2 f0 f1 f2 f3 ff0 ff1 ff2 ff3 en aG aR aF hE hT
    obtain ⟨z0, z1, z2, zf0, zf1, zf2⟩ := rd.three aZ
    obtain ⟨f0, f1, f2, f3, ff0, ff1, ff2, ff3⟩ := four aF'
    go_wp2_with fail
    refine (rd.implAged _ _ _ _).mono ?_
    rw [rd.aged_ok h1]
    rintro e w4 ⟨rfl, hg⟩
    replace aZ := aZ.grown hg (by simp)
    replace g0 := gr_trans g0 hg
    clear hg z0 z1 z2 zf0 zf1 zf2 f0 f1 f2 f3 ff0 ff1 ff2 ff3
    obtain ⟨z0, z1, z2, zf0, zf1, zf2⟩ := rd.three aZ
    go_wp2_with fail
    obtain ⟨k0, k1, k2, _, _, _⟩ := rd.three (rd.set3 aZ (.int .i64 (v)) (.int .i64 (min 1000 (a + 1))) (.bool o))
    exact bodyPost_ret (v := .agg #[.int .i64 (v), .int .i64 (min 1000 (a + 1)), .bool o]) (by simp [results, Tryz.results94, go_sem, k0, k1, k2]) rfl ⟨rfl, gr_new (gr_new (gr_new g0 (by omega) _ _) (by omega) _ _) (by omega) _ _⟩
end Go.Proofs.YtdikhdfpcipdbaaGreatDoor.sane
