/- Chapter 8 of the program: Taken. What came in: senses; read, their bulk. -/
import Derived.Test.YtjbgcgblamijdaaGreatDoorG23
import Derived.Test.YtjbgcgblamijdaaGreatDoorG8
import Derived.ChangeSame
import Derived.Deep.Strs
import Derived.StillTailTactics
/- Chapter 8 of the program: Taken. -/
namespace Go.Proofs.YtjbgcgblamijdaaGreatDoor.sane
open Go.ChangeShapes Go.WideShapes Go.ChangeAt Go.RowKit
open Go.Proofs.YtjbgcgblamijdaaGreatDoor.nums Go.Proofs.YtjbgcgblamijdaaGreatDoor.mem
open Go.Proofs.YtjbgcgblamijdaaGreatDoor.tab (Ret quiet_w)
open Go.Proofs.YtjbgcgblamijdaaGreatDoor.rd (okR okR_iff RetR)
set_option linter.unusedVariables false

/-- The three errors lie in three blocks; neither of the last two is the first. -/
structure ErrB (w : World) (n f q : Addr) : Prop where
  vars : Errs w n f q
  bn : ∃ t c, Has w n.block t c
  bf : ∃ t c, Has w f.block t c
  bq : ∃ t c, Has w q.block t c
  nf : f ≠ n
  nq : q ≠ n
theorem ErrB.kept {w w' : World} {n f q : Addr} (h : ErrB w n f q) (hg : w.grownBy w' none) : ErrB w' n f q :=
  ⟨h.vars.kept hg, by obtain ⟨t, c, h⟩ := h.bn; exact ⟨t, c, h.grown hg (by simp)⟩, by obtain ⟨t, c, h⟩ := h.bf; exact ⟨t, c, h.grown hg (by simp)⟩, by obtain ⟨t, c, h⟩ := h.bq; exact ⟨t, c, h.grown hg (by simp)⟩, h.nf, h.nq⟩
theorem ErrB.other {w : World} {n f q y : Addr} (h : ErrB w n f q) (hy : y = f ∨ y = q) : y ≠ n ∧ (∃ t c, Has w y.block t c) := by
  rcases hy with rfl | rfl
  · exact ⟨h.nf, h.bf⟩
  · exact ⟨h.nq, h.bq⟩
theorem ErrT.kept {w w' : World} (h : ErrT w) (hg : w.grownBy w' none) : ErrT w' := cell_kept h hg
theorem four {w : World} {g : Nat} {t : TypeId} {a b c d : Value} (h : Has w g t #[a, b, c, d]) : w.cell? ⟨g, 0, none⟩ = some a ∧ w.cell? ⟨g, 1, none⟩ = some b ∧ w.cell? ⟨g, 2, none⟩ = some c ∧ w.cell? ⟨g, 3, none⟩ = some d ∧ w.frozen? ⟨g, 0, none⟩ = false ∧ w.frozen? ⟨g, 1, none⟩ = false ∧ w.frozen? ⟨g, 2, none⟩ = false ∧ w.frozen? ⟨g, 3, none⟩ = false :=
  ⟨h.cell 0, h.cell 1, h.cell 2, h.cell 3, h.frozen 0, h.frozen 1, h.frozen 2, h.frozen 3⟩

set_option maxHeartbeats 1000000 in
theorem implTaken (lo hi ra v a x : Int) (o : Bool) (n f q : Addr) (w : World) (he : ErrB w n f q) (ht : ErrT w) : Calls Tryz.prog 119 #[.agg #[.int .i64 lo, .int .i64 hi, .int .i64 ra], .agg #[.int .i64 v, .int .i64 a, .bool o], .int .i64 x] w (RetR (taken lo hi ra v a x o) w) := by
  have aG := ((Has.fresh w 84 #[.int .i64 lo, .int .i64 hi, .int .i64 ra]).alloc (Obj.cells #[.int .i64 v, .int .i64 a, .bool o] 42)).alloc (Obj.cells #[.int .i64 0, .int .i64 0, .bool false] 42)
  have aR := (rd.fresh1 w (Obj.cells #[.int .i64 lo, .int .i64 hi, .int .i64 ra] 84) 42 #[.int .i64 v, .int .i64 a, .bool o]).alloc (Obj.cells #[.int .i64 0, .int .i64 0, .bool false] 42)
  have aZ := rd.fresh1 (w.alloc (Obj.cells #[.int .i64 lo, .int .i64 hi, .int .i64 ra] 84)) (Obj.cells #[.int .i64 v, .int .i64 a, .bool o] 42) 42 #[.int .i64 0, .int .i64 0, .bool false]
  have g0 : w.grownBy (((w.alloc (Obj.cells #[.int .i64 lo, .int .i64 hi, .int .i64 ra] 84)).alloc (Obj.cells #[.int .i64 v, .int .i64 a, .bool o] 42)).alloc (Obj.cells #[.int .i64 0, .int .i64 0, .bool false] 42)) none := gr_alloc (gr_alloc (World.grownBy_alloc _ _ _) _) _
  simp only [World.size_alloc] at aZ
  have hE := he.kept g0
  have hT := ht.kept g0
  rcases Bool.eq_false_or_eq_true (okG lo hi ra && okR (v, a, o)) with h | h
  rotate_left
  · rw [taken_no h]
    go_enter Tryz.func119, Tryz.ntmps119
    go_wp2_with fail
    refine (implWhyNot lo hi ra v a x o n f q _ hE.vars).mono ?_
    rintro e w1 ⟨rfl, hg⟩
    have s1 := hg.size
    simp only [World.size_alloc] at s1
    replace hg := gr_alloc hg (Obj.cells #[.int .i64 0, .int .i64 0, .bool false, .nilIface] 173)
    have aF := Has.fresh w1 173 #[.int .i64 0, .int .i64 0, .bool false, .nilIface]
    replace aG := aG.grown hg (by simp)
    replace aR := aR.grown hg (by simp)
    replace aZ := aZ.grown hg (by simp)
    replace g0 := gr_trans g0 hg
    replace hE := hE.kept hg
    replace hT := hT.kept hg
    clear hg
    obtain ⟨c0, c1, c2, cf0, cf1, cf2⟩ := rd.three aG
    obtain ⟨d0, d1, d2, df0, df1, df2⟩ := rd.three aR
    obtain ⟨z0, z1, z2, zf0, zf1, zf2⟩ := rd.three aZ
    obtain ⟨f0, f1, f2, f3, ff0, ff1, ff2, ff3⟩ := four aF
    have en := hE.vars.cn
    rw [whyE_no h]
    go_wp2_with fail
    refine (is_same v a o n _).mono ?_
    rintro e w2 ⟨rfl, hg⟩
    have s2 := aF.lt
    replace aG := aG.grown hg (by simp)
    replace aR := aR.grown hg (by simp)
    replace aZ := aZ.grown hg (by simp)
    replace aF := aF.grown hg (by simp)
    replace g0 := gr_trans g0 hg
    replace hE := hE.kept hg
    replace hT := hT.kept hg
    clear hg
    clear c0 c1 c2 cf0 cf1 cf2 d0 d1 d2 df0 df1 df2 z0 z1 z2 zf0 zf1 zf2 f0 f1 f2 f3 ff0 ff1 ff2 ff3 en
    obtain ⟨c0, c1, c2, cf0, cf1, cf2⟩ := rd.three aG
    obtain ⟨d0, d1, d2, df0, df1, df2⟩ := rd.three aR
    obtain ⟨z0, z1, z2, zf0, zf1, zf2⟩ := rd.three aZ
    obtain ⟨f0, f1, f2, f3, ff0, ff1, ff2, ff3⟩ := four aF
    have en := hE.vars.cn
    go_wp2_with fail
    obtain ⟨k0, k1, k2, _, _, _⟩ := rd.three (rd.set3 aZ (.int .i64 (0)) (.int .i64 (0)) (.bool false))
    exact bodyPost_ret (v := .agg #[.int .i64 (0), .int .i64 (0), .bool false]) (by simp [results, Tryz.results119, go_sem, k0, k1, k2]) rfl ⟨rfl, gr_new (gr_new (gr_new g0 (by omega) _ _) (by omega) _ _) (by omega) _ _⟩
  obtain ⟨h0, h1⟩ := Bool.and_eq_true_iff.1 h
  rcases Bool.eq_false_or_eq_true (saneB lo hi ra v a x o) with h2 | h2
  · rw [taken_got h0 h1 h2]
    go_enter Tryz.func119, Tryz.ntmps119
    go_wp2_with fail
    refine (implWhyNot lo hi ra v a x o n f q _ hE.vars).mono ?_
    rintro e w1 ⟨rfl, hg⟩
    have s1 := hg.size
    simp only [World.size_alloc] at s1
    replace hg := gr_alloc hg (Obj.cells #[.int .i64 0, .int .i64 0, .bool false, .nilIface] 173)
    have aF := Has.fresh w1 173 #[.int .i64 0, .int .i64 0, .bool false, .nilIface]
    replace aG := aG.grown hg (by simp)
    replace aR := aR.grown hg (by simp)
    replace aZ := aZ.grown hg (by simp)
    replace g0 := gr_trans g0 hg
    replace hE := hE.kept hg
    replace hT := hT.kept hg
    clear hg
    obtain ⟨c0, c1, c2, cf0, cf1, cf2⟩ := rd.three aG
    obtain ⟨d0, d1, d2, df0, df1, df2⟩ := rd.three aR
    obtain ⟨z0, z1, z2, zf0, zf1, zf2⟩ := rd.three aZ
    obtain ⟨f0, f1, f2, f3, ff0, ff1, ff2, ff3⟩ := four aF
    have en := hE.vars.cn
    rw [whyE_nil h2]
    go_wp2_with fail
    refine (is_nil n _).mono ?_
    rintro e w2 ⟨rfl, hg⟩
    have s2 := aF.lt
    replace aG := aG.grown hg (by simp)
    replace aR := aR.grown hg (by simp)
    replace aZ := aZ.grown hg (by simp)
    replace aF := aF.grown hg (by simp)
    replace g0 := gr_trans g0 hg
    replace hE := hE.kept hg
    replace hT := hT.kept hg
    clear hg
    clear c0 c1 c2 cf0 cf1 cf2 d0 d1 d2 df0 df1 df2 z0 z1 z2 zf0 zf1 zf2 f0 f1 f2 f3 ff0 ff1 ff2 ff3 en
    obtain ⟨c0, c1, c2, cf0, cf1, cf2⟩ := rd.three aG
    obtain ⟨d0, d1, d2, df0, df1, df2⟩ := rd.three aR
    obtain ⟨z0, z1, z2, zf0, zf1, zf2⟩ := rd.three aZ
    obtain ⟨f0, f1, f2, f3, ff0, ff1, ff2, ff3⟩ := four aF
    have en := hE.vars.cn
    go_wp2_with fail
    refine (as_nil _ _).mono ?_
    rintro e w3 ⟨rfl, hg⟩
    have s3 := aF.lt
    replace aG := aG.grown hg (by simp)
    replace aR := aR.grown hg (by simp)
    replace aZ := aZ.grown hg (by simp)
    replace aF := aF.grown hg (by simp)
    replace g0 := gr_trans g0 hg
    replace hE := hE.kept hg
    replace hT := hT.kept hg
    clear hg
    clear c0 c1 c2 cf0 cf1 cf2 d0 d1 d2 df0 df1 df2 z0 z1 z2 zf0 zf1 zf2 f0 f1 f2 f3 ff0 ff1 ff2 ff3 en
    obtain ⟨c0, c1, c2, cf0, cf1, cf2⟩ := rd.three aG
    obtain ⟨d0, d1, d2, df0, df1, df2⟩ := rd.three aR
    obtain ⟨z0, z1, z2, zf0, zf1, zf2⟩ := rd.three aZ
    obtain ⟨f0, f1, f2, f3, ff0, ff1, ff2, ff3⟩ := four aF
    have en := hE.vars.cn
    go_wp2_with fail
    refine (rd.implGot _ _ _ _ _).mono ?_
    rw [got_in h0 h1 h2]
    rintro e w4 ⟨rfl, hg⟩
    have s4 := aF.lt
    replace aG := aG.grown hg (by simp)
    replace aR := aR.grown hg (by simp)
    replace aZ := aZ.grown hg (by simp)
    replace aF := aF.grown hg (by simp)
    replace g0 := gr_trans g0 hg
    replace hE := hE.kept hg
    replace hT := hT.kept hg
    clear hg
    clear c0 c1 c2 cf0 cf1 cf2 d0 d1 d2 df0 df1 df2 z0 z1 z2 zf0 zf1 zf2 f0 f1 f2 f3 ff0 ff1 ff2 ff3 en
    obtain ⟨c0, c1, c2, cf0, cf1, cf2⟩ := rd.three aG
    obtain ⟨d0, d1, d2, df0, df1, df2⟩ := rd.three aR
    obtain ⟨z0, z1, z2, zf0, zf1, zf2⟩ := rd.three aZ
    obtain ⟨f0, f1, f2, f3, ff0, ff1, ff2, ff3⟩ := four aF
    have en := hE.vars.cn
    go_wp2_with fail
    obtain ⟨k0, k1, k2, _, _, _⟩ := rd.three (rd.set3 aZ (.int .i64 (x)) (.int .i64 (0)) (.bool true))
    exact bodyPost_ret (v := .agg #[.int .i64 (x), .int .i64 (0), .bool true]) (by simp [results, Tryz.results119, go_sem, k0, k1, k2]) rfl ⟨rfl, gr_new (gr_new (gr_new g0 (by omega) _ _) (by omega) _ _) (by omega) _ _⟩
  · rw [taken_old h0 h1 h2]
    obtain ⟨y, hy, hyE⟩ := whyE_ref (n := n) (f := f) (q := q) h0 h1 h2
    go_enter Tryz.func119, Tryz.ntmps119
    go_wp2_with fail
    refine (implWhyNot lo hi ra v a x o n f q _ hE.vars).mono ?_
    rintro e w1 ⟨rfl, hg⟩
    have s1 := hg.size
    simp only [World.size_alloc] at s1
    replace hg := gr_alloc hg (Obj.cells #[.int .i64 0, .int .i64 0, .bool false, .nilIface] 173)
    have aF := Has.fresh w1 173 #[.int .i64 0, .int .i64 0, .bool false, .nilIface]
    replace aG := aG.grown hg (by simp)
    replace aR := aR.grown hg (by simp)
    replace aZ := aZ.grown hg (by simp)
    replace g0 := gr_trans g0 hg
    replace hE := hE.kept hg
    replace hT := hT.kept hg
    clear hg
    obtain ⟨c0, c1, c2, cf0, cf1, cf2⟩ := rd.three aG
    obtain ⟨d0, d1, d2, df0, df1, df2⟩ := rd.three aR
    obtain ⟨z0, z1, z2, zf0, zf1, zf2⟩ := rd.three aZ
    obtain ⟨f0, f1, f2, f3, ff0, ff1, ff2, ff3⟩ := four aF
    have en := hE.vars.cn
    rw [hyE]
    go_wp2_with fail
    obtain ⟨tn, cn, bn⟩ := hE.bn
    obtain ⟨hny, ty, cy, by1⟩ := hE.other hy
    refine (is_other v a o y n cy cn ty tn _ hny by1 bn).mono ?_
    rintro e w2 ⟨rfl, hg⟩
    have s2 := aF.lt
    replace aG := aG.grown hg (by simp)
    replace aR := aR.grown hg (by simp)
    replace aZ := aZ.grown hg (by simp)
    replace aF := aF.grown hg (by simp)
    replace g0 := gr_trans g0 hg
    replace hE := hE.kept hg
    replace hT := hT.kept hg
    clear hg
    clear c0 c1 c2 cf0 cf1 cf2 d0 d1 d2 df0 df1 df2 z0 z1 z2 zf0 zf1 zf2 f0 f1 f2 f3 ff0 ff1 ff2 ff3 en
    obtain ⟨c0, c1, c2, cf0, cf1, cf2⟩ := rd.three aG
    obtain ⟨d0, d1, d2, df0, df1, df2⟩ := rd.three aR
    obtain ⟨z0, z1, z2, zf0, zf1, zf2⟩ := rd.three aZ
    obtain ⟨f0, f1, f2, f3, ff0, ff1, ff2, ff3⟩ := four aF
    have en := hE.vars.cn
    go_wp2_with fail
    refine (as_hit v a o y _ _ _ _ _ _ _ hT aF).mono ?_
    rintro e w3 ⟨rfl, hg, aF'⟩
    replace aZ := aZ.grown hg (by simp; omega)
    replace g0 := gr_past g0 hg (by omega)
    clear hg
    clear c0 c1 c2 cf0 cf1 cf2 d0 d1 d2 df0 df1 df2 z0 z1 z2 zf0 zf1 zf2 f0 f1 f2 f3 ff0 ff1 ff2 ff3 en aG aR aF hE hT
    obtain ⟨z0, z1, z2, zf0, zf1, zf2⟩ := rd.three aZ
    obtain ⟨f0, f1, f2, f3, ff0, ff1, ff2, ff3⟩ := four aF'
    go_wp2_with fail
    refine (rd.implAged _ _ _ _).mono ?_
    rw [rd.aged_ok h1]
    rintro e w4 ⟨rfl, hg⟩
    replace aZ := aZ.grown hg (by simp)
    replace g0 := gr_trans g0 hg
    clear hg z0 z1 z2 zf0 zf1 zf2 f0 f1 f2 f3 ff0 ff1 ff2 ff3
    obtain ⟨z0, z1, z2, zf0, zf1, zf2⟩ := rd.three aZ
    go_wp2_with fail
    obtain ⟨k0, k1, k2, _, _, _⟩ := rd.three (rd.set3 aZ (.int .i64 (v)) (.int .i64 (min 1000 (a + 1))) (.bool o))
    exact bodyPost_ret (v := .agg #[.int .i64 (v), .int .i64 (min 1000 (a + 1)), .bool o]) (by simp [results, Tryz.results119, go_sem, k0, k1, k2]) rfl ⟨rfl, gr_new (gr_new (gr_new g0 (by omega) _ _) (by omega) _ _) (by omega) _ _⟩
end Go.Proofs.YtjbgcgblamijdaaGreatDoor.sane

/- What came in: senses; read, their bulk. -/
namespace Go.Proofs.YtjbgcgblamijdaaGreatDoor.se
open Go.ChangeShapes Go.WideShapes Go.ChangeAt Go.RowKit
open Go.Proofs.YtjbgcgblamijdaaGreatDoor.nums Go.Proofs.YtjbgcgblamijdaaGreatDoor.mem
open Go.Proofs.YtjbgcgblamijdaaGreatDoor.tab (Ret)
open Go.Proofs.YtjbgcgblamijdaaGreatDoor.rd (R okR zR OwnR)
open Go.Proofs.YtjbgcgblamijdaaGreatDoor.il (nth Ints Own)
set_option linter.unusedVariables false

section
variable {H : Type} {enc : TypeId × Value → H} {P : Program} {w : World} {base : Nat} {spare : Nat → Bool} {held : Bool}
/-- The six fields of a struct are read one by one. -/
theorem trod_struct6 {t : TypeId} {f0 f1 f2 f3 f4 f5 : Field} {fuel : Nat} {cs : List Value} {x : DataW H × List MemPlace} (ht : P.underlying t = some (.struct #[f0, f1, f2, f3, f4, f5])) (h : DataW.trod enc P w base spare held fuel t cs = some x) :
    ∃ y0 y1 y2 y3 y4 y5 n, cs.length = P.cellsOf t ∧
      (DataW.trod enc P w base spare held n f0.type ((cs.drop f0.offset).take (P.cellsOf f0.type)) = some y0 ∧ DataW.trod enc P w base spare held n f1.type ((cs.drop f1.offset).take (P.cellsOf f1.type)) = some y1 ∧
      DataW.trod enc P w base spare held n f2.type ((cs.drop f2.offset).take (P.cellsOf f2.type)) = some y2 ∧ DataW.trod enc P w base spare held n f3.type ((cs.drop f3.offset).take (P.cellsOf f3.type)) = some y3) ∧
      DataW.trod enc P w base spare held n f4.type ((cs.drop f4.offset).take (P.cellsOf f4.type)) = some y4 ∧ DataW.trod enc P w base spare held n f5.type ((cs.drop f5.offset).take (P.cellsOf f5.type)) = some y5 := by
  obtain ⟨xs, n, _, rfl, hl, hlen, hf⟩ := DataW.trod_struct ht h
  match xs, hlen with
  | [y0, y1, y2, y3, y4, y5], _ =>
    exact ⟨y0, y1, y2, y3, y4, y5, n, hl, ⟨by simpa using hf 0 f0 rfl, by simpa using hf 1 f1 rfl, by simpa using hf 2 f2 rfl, by simpa using hf 3 f3 rfl⟩, by simpa using hf 4 f4 rfl, by simpa using hf 5 f5 rfl⟩
end

theorem readings_of_trod {H : Type} {enc : TypeId × Value → H} {w : World} {base : Nat} {held : Bool} {fuel : Nat} {cs : List Value} {y : DataW H × List MemPlace}
    (hf : DataW.trod enc Tryz.prog w base (fun _ => true) held fuel 45 cs = some y) : ∃ (a : Option Addr) (cap : Nat) (l : List R), cs = [.slice a l.length cap] ∧ l.length ≤ maxLen ∧ rd.Arg w a l := by
  have hs : ∃ a len cap, cs = [Value.slice a len cap] := by
    rcases Go.Deep.open_slice Tryz.underlying45 hf with ⟨hcs, _⟩ | ⟨x, l, c, m, n, D, Pq, hcs, _⟩
    · exact ⟨_, _, _, hcs⟩
    · exact ⟨_, _, _, hcs⟩
  obtain ⟨a, len, cap, rfl⟩ := hs
  obtain ⟨d, p⟩ := y
  obtain ⟨l, e, hl, hA⟩ := rd.open_readings (a := a) (len := len) (cap := cap) (d := d) (p := p) ⟨fuel, hf⟩
  subst e
  exact ⟨a, cap, l, rfl, hl, hA⟩

theorem ints_of_trod {H : Type} {enc : TypeId × Value → H} {w : World} {base : Nat} {held : Bool} {fuel : Nat} {cs : List Value} {y : DataW H × List MemPlace}
    (hf : DataW.trod enc Tryz.prog w base (fun _ => true) held fuel 25 cs = some y) : ∃ (a : Option Addr) (cap : Nat) (l : List Int), cs = [.slice a l.length cap] ∧ l.length ≤ maxLen ∧ Ints w a l := by
  have hs : ∃ a len cap, cs = [Value.slice a len cap] := by
    rcases open_ints Tryz.underlying25 Tryz.underlying2 (by kernel_rfl) hf with ⟨hcs, _⟩ | ⟨x, len, cap, zs, hcs, _⟩
    · exact ⟨_, _, _, hcs⟩
    · exact ⟨_, _, _, hcs⟩
  obtain ⟨a, len, cap, rfl⟩ := hs
  obtain ⟨d, p⟩ := y
  obtain ⟨l, e, hl, hA, _⟩ := il.open_ints' (a := a) (len := len) (cap := cap) (d := d) (p := p) ⟨fuel, hf⟩
  subst e
  exact ⟨a, cap, l, rfl, hl, hA⟩

/-- How many there are in all. -/
def bulk (s : S) : Nat := s.sp.length + s.he.length + s.fa.length + s.sq.length
/-- No list is longer than any can be. -/
structure Lim (s : S) : Prop where
  sp : s.sp.length ≤ maxLen
  he : s.he.length ≤ maxLen
  fa : s.fa.length ≤ maxLen
  sq : s.sq.length ≤ maxLen
set_option maxRecDepth 100000 in
theorem open_senses {H : Type} {enc : TypeId × Value → H} {w : World} {r : Reach} {b0 base : Nat} {held : Bool} {v : Value} {d : DataW H} {p : List MemPlace}
    (hval : Value.okWide Tryz.prog w r b0 47 v) (h : DataW.Trod enc Tryz.prog w base (fun _ => true) held 47 v d p) : ∃ s q, v = sv s q ∧ Arg w s q ∧ Lim s := by
  obtain ⟨cs, rfl, hs⟩ := okWide_struct Tryz.underlying47 hval
  obtain ⟨fuel, hf⟩ := h
  have h2 : Tryz.prog.cellsOf 47 = 6 := by kernel_rfl
  rw [h2] at hs
  obtain ⟨y0, y1, y2, y3, y4, y5, n, hl, ⟨t0, t1, t2, t3⟩, t4, t5⟩ := trod_struct6 Tryz.underlying47 hf
  obtain ⟨a0, k0, l0, e0, m0, A0⟩ := readings_of_trod t0
  obtain ⟨a1, k1, l1, e1, m1, A1⟩ := readings_of_trod t1
  obtain ⟨a2, k2, l2, e2, m2, A2⟩ := readings_of_trod t2
  obtain ⟨z3, e3, _, _⟩ := DataW.trod_int Tryz.underlying2 t3
  obtain ⟨z4, e4, _⟩ := DataW.trod_bool Tryz.underlying4 t4
  obtain ⟨a5, k5, l5, e5, m5, A5⟩ := ints_of_trod t5
  have c0 : Tryz.prog.cellsOf 45 = 1 := by kernel_rfl
  have c1 : Tryz.prog.cellsOf 2 = 1 := by kernel_rfl
  have c2 : Tryz.prog.cellsOf 4 = 1 := by kernel_rfl
  have c3 : Tryz.prog.cellsOf 25 = 1 := by kernel_rfl
  obtain ⟨l⟩ := cs
  match l, hs with
  | [x0, x1, x2, x3, x4, x5], _ =>
    simp [Value.cells, c0, c1, c2, c3] at e0 e1 e2 e3 e4 e5
    refine ⟨⟨l0, l1, l2, z3, z4, l5⟩, ⟨a0, k0, a1, k1, a2, k2, a5, k5⟩, ?_, ⟨A0, A1, A2, A5⟩, ⟨m0, m1, m2, m5⟩⟩
    rw [e0, e1, e2, e3, e4, e5]

theorem szReadingsL (a : Option Addr) (len cap L : Nat) (w : World) (hl : len ≤ maxLen) (hL : L ≤ 1048576) :
    Calls Tryz.prog 69 #[.slice a len cap, .int .i64 L] w fun e w' => e = .returned (.int .i64 (if len ≤ L then (L : Int) - (len : Int) else -1)) ∧ w = w' := by
  unfold maxLen at hl
  by_cases h : len ≤ L
  · rw [if_pos h]
    have h0 : decide ((L : Int) - (len : Int) < 0) = false := by simp; omega
    go_enter Tryz.func69, Tryz.ntmps69
    go_wp2
    go_ret
    exact ⟨rfl, rfl⟩
  · rw [if_neg h]
    have h0 : decide ((L : Int) - (len : Int) < 0) = true := by simp; omega
    go_enter Tryz.func69, Tryz.ntmps69
    go_wp2
    go_ret
    exact ⟨rfl, rfl⟩
theorem szR_yes (a : Option Addr) (len cap L M : Nat) (w : World) (hl : len ≤ maxLen) (hL : L ≤ 1048576) (h : L = M + len) :
    Calls Tryz.prog 69 #[.slice a len cap, .int .i64 L] w fun e w' => e = .returned (.int .i64 M) ∧ w = w' := by
  have := szReadingsL a len cap L w hl hL
  rw [if_pos (by omega), show (L : Int) - (len : Int) = M by omega] at this
  exact this
theorem szR_no (a : Option Addr) (len cap L : Nat) (w : World) (hl : len ≤ maxLen) (hL : L ≤ 1048576) (h : ¬ len ≤ L) :
    Calls Tryz.prog 69 #[.slice a len cap, .int .i64 L] w fun e w' => e = .returned (.int .i64 (-1)) ∧ w = w' := by
  have := szReadingsL a len cap L w hl hL
  rw [if_neg h] at this
  exact this
theorem szI_yes (a : Option Addr) (len cap L M : Nat) (w : World) (hl : len ≤ maxLen) (hL : L ≤ 1048576) (h : L = M + len) :
    Calls Tryz.prog 70 #[.slice a len cap, .int .i64 L] w fun e w' => e = .returned (.int .i64 M) ∧ w = w' := by
  have := il.szInts a len cap L w hl hL
  rw [if_pos (by omega), show (L : Int) - (len : Int) = M by omega] at this
  exact this
theorem szI_no (a : Option Addr) (len cap L : Nat) (w : World) (hl : len ≤ maxLen) (hL : L ≤ 1048576) (h : ¬ len ≤ L) :
    Calls Tryz.prog 70 #[.slice a len cap, .int .i64 L] w fun e w' => e = .returned (.int .i64 (-1)) ∧ w = w' := by
  have := il.szInts a len cap L w hl hL
  rw [if_neg h] at this
  exact this
end Go.Proofs.YtjbgcgblamijdaaGreatDoor.se

