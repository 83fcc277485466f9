/- The draws of chapter 8, whole. -/
import Derived.Test.YtdjaikjakdidcaaDoorSnDraw
namespace Go.Proofs.YtdjaikjakdidcaaDoor.sane
open Go.ChangeShapes Go.WideShapes Go.ChangeAt Go.RowKit
open Go.Proofs.YtdjaikjakdidcaaDoor.nums Go.Proofs.YtdjaikjakdidcaaDoor.mem Go.Proofs.YtdjaikjakdidcaaDoor.cur
open Go.Proofs.YtdjaikjakdidcaaDoor.tab (Ret quiet_w wpList_make_has add_off)
set_option linter.unusedVariables false

/-- A draw of a range, a reading and a value. -/
def DrawnGR (w : World) (e : Ending) (w' : World) : Prop :=
  ∃ (lo hi ra v a : Int) (o : Bool) (x : Int), e = .returned (.tuple #[.agg #[.int .i64 lo, .int .i64 hi, .int .i64 ra], .agg #[.int .i64 v, .int .i64 a, .bool o], .int .i64 x]) ∧ w.grownBy w' none

/-- A range and a reading in their two boxes. -/
def Bx (w : World) (g h : Nat) (s t : TypeId) (lo hi ra v a : Int) (o : Bool) : Prop := Has w g s #[.int .i64 lo, .int .i64 hi, .int .i64 ra] ∧ Has w h t #[.int .i64 v, .int .i64 a, .bool o]
theorem Bx.kept {w w' : World} {g h : Nat} {s t : TypeId} {lo hi ra v a : Int} {o : Bool} (k : Bx w g h s t lo hi ra v a o) (hg : w.grownBy w' none) : Bx w' g h s t lo hi ra v a o := ⟨k.1.grown hg (by simp), k.2.grown hg (by simp)⟩
theorem Bx.drew {w : World} {g h : Nat} {s t : TypeId} {lo hi ra v a : Int} {o : Bool} (k : Bx w g h s t lo hi ra v a o) : Bx w.drew g h s t lo hi ra v a o := k
theorem Bx.three_ {w : World} {g h : Nat} {s t : TypeId} {lo hi ra v a : Int} {o : Bool} (k : Bx w g h s t lo hi ra v a o) {x : Nat} (h1 : x ≠ g) (h2 : x ≠ h) (i j l : Value) : Bx (((w.setCell ⟨x, 0, none⟩ i).setCell ⟨x, 1, none⟩ j).setCell ⟨x, 2, none⟩ l) g h s t lo hi ra v a o := ⟨((k.1.set_other (Ne.symm h1) _ _).set_other (Ne.symm h1) _ _).set_other (Ne.symm h1) _ _, ((k.2.set_other (Ne.symm h2) _ _).set_other (Ne.symm h2) _ _).set_other (Ne.symm h2) _ _⟩
theorem Bx.put01 {w : World} {g h : Nat} {s t : TypeId} {lo hi ra v a lo' hi' ra' v' a' : Int} {o o' : Bool} (hn : g ≠ h) (k1 : Has w g s #[.int .i64 lo', .int .i64 hi', .int .i64 ra']) (k2 : Has w h t #[.int .i64 v', .int .i64 a', .bool o']) :
    Bx ((((((w.setCell ⟨g, 0, none⟩ (.int .i64 lo)).setCell ⟨g, 1, none⟩ (.int .i64 hi)).setCell ⟨g, 2, none⟩ (.int .i64 ra)).setCell ⟨h, 0, none⟩ (.int .i64 v)).setCell ⟨h, 1, none⟩ (.int .i64 a)).setCell ⟨h, 2, none⟩ (.bool o)) g h s t lo hi ra v a o :=
  ⟨(((rd.set3 k1 _ _ _).set_other hn _ _).set_other hn _ _).set_other hn _ _, rd.set3 (((k2.set_other (Ne.symm hn) _ _).set_other (Ne.symm hn) _ _).set_other (Ne.symm hn) _ _) _ _ _⟩
theorem Bx.put10 {w : World} {g h : Nat} {s t : TypeId} {lo hi ra v a lo' hi' ra' v' a' : Int} {o o' : Bool} (hn : g ≠ h) (k1 : Has w g s #[.int .i64 lo', .int .i64 hi', .int .i64 ra']) (k2 : Has w h t #[.int .i64 v', .int .i64 a', .bool o']) :
    Bx ((((((w.setCell ⟨h, 0, none⟩ (.int .i64 v)).setCell ⟨h, 1, none⟩ (.int .i64 a)).setCell ⟨h, 2, none⟩ (.bool o)).setCell ⟨g, 0, none⟩ (.int .i64 lo)).setCell ⟨g, 1, none⟩ (.int .i64 hi)).setCell ⟨g, 2, none⟩ (.int .i64 ra)) g h s t lo hi ra v a o :=
  ⟨rd.set3 (((k1.set_other hn _ _).set_other hn _ _).set_other hn _ _) _ _ _, (((rd.set3 k2 _ _ _).set_other (Ne.symm hn) _ _).set_other (Ne.symm hn) _ _).set_other (Ne.symm hn) _ _⟩
theorem Bx.cells {w : World} {g h : Nat} {s t : TypeId} {lo hi ra v a : Int} {o : Bool} (k : Bx w g h s t lo hi ra v a o) : (w.cell? ⟨g, 0, none⟩ = some (.int .i64 lo) ∧ w.cell? ⟨g, 1, none⟩ = some (.int .i64 hi) ∧ w.cell? ⟨g, 2, none⟩ = some (.int .i64 ra)) ∧ w.cell? ⟨h, 0, none⟩ = some (.int .i64 v) ∧ w.cell? ⟨h, 1, none⟩ = some (.int .i64 a) ∧ w.cell? ⟨h, 2, none⟩ = some (.bool o) := ⟨⟨k.1.cell 0, k.1.cell 1, k.1.cell 2⟩, k.2.cell 0, k.2.cell 1, k.2.cell 2⟩

set_option maxHeartbeats 2000000 in
theorem drawIsSane (b : Option Addr) (n c : Nat) (w : World) (hn : n ≤ 4096) (hb : Bytes w w.heap.size b n) :
    Calls Tryd.prog 20 #[.slice b n c] w (DrawnGR w) := by
  have a0 := (Has.fresh w 25 #[.int .i64 0, .int .i64 0, .int .i64 0]).alloc (Obj.cells #[.int .i64 0, .int .i64 0, .bool false] 27)
  have a1 := rd.fresh1 w (Obj.cells #[.int .i64 0, .int .i64 0, .int .i64 0] 25) 27 #[.int .i64 0, .int .i64 0, .bool false]
  have g0 : w.grownBy ((w.alloc (Obj.cells #[.int .i64 0, .int .i64 0, .int .i64 0] 25)).alloc (Obj.cells #[.int .i64 0, .int .i64 0, .bool false] 27)) none := gr_alloc (World.grownBy_alloc _ _ _) _
  have hb1 : Bytes ((w.alloc (Obj.cells #[.int .i64 0, .int .i64 0, .int .i64 0] 25)).alloc (Obj.cells #[.int .i64 0, .int .i64 0, .bool false] 27)) ((w.alloc (Obj.cells #[.int .i64 0, .int .i64 0, .int .i64 0] 25)).alloc (Obj.cells #[.int .i64 0, .int .i64 0, .bool false] 27)).heap.size b n := (hb.below (Nat.le_refl _) (below_of_none g0)).more (by simp; omega)
  go_enter Tryd.func20, Tryd.ntmps20
  go_wp2_with fail
  refine (new b n c _ hn hb1).mono ?_
  rintro e w1 ⟨q, rfl, hq, g1, h1⟩
  have hq0 : w.heap.size + 1 < q := by have : w.heap.size + 1 + 1 ≤ q := (by simpa using hq); omega
  replace a0 := a0.grown g1 (by simp)
  replace a1 := a1.grown g1 (by simp)
  replace g0 := gr_trans g0 g1
  clear hb hb1 hq g1
  go_wp2_with fail
  refine (drawG b n c q _ hn h1).mono ?_
  rintro e w2 ⟨lo, hi, ra, rfl, g2, h2⟩
  replace a0 := (a0.grown g2 (fun e => by injection e with e; omega)).alloc (Obj.cells #[.int .i64 lo, .int .i64 hi, .int .i64 ra] 25)
  replace a1 := (a1.grown g2 (fun e => by injection e with e; omega)).alloc (Obj.cells #[.int .i64 lo, .int .i64 hi, .int .i64 ra] 25)
  have a2 := Has.fresh w2 25 #[.int .i64 lo, .int .i64 hi, .int .i64 ra]
  replace g0 := gr_alloc (gr_past g0 g2 (by omega)) (Obj.cells #[.int .i64 lo, .int .i64 hi, .int .i64 ra] 25)
  have hz := h2.lt
  replace h2 := h2.alloc (Obj.cells #[.int .i64 lo, .int .i64 hi, .int .i64 ra] 25)
  clear g2 h1
  go_upto_region 1 with fail
  generalize w2.alloc (Obj.cells #[.int .i64 lo, .int .i64 hi, .int .i64 ra] 25) = w3 at *
  obtain ⟨bg, hbg⟩ : ∃ y, y = w2.heap.size := ⟨_, rfl⟩
  rw [← hbg] at a2 hz ⊢
  clear hbg
  go_wp2_with fail
  refine (rd.drawAny b n c q _ hn h2).mono ?_
  rintro e w4 ⟨v, a, o, _, rfl, g2, h4⟩
  replace a0 := (a0.grown g2 (fun e => by injection e with e; omega)).alloc (Obj.cells #[.int .i64 v, .int .i64 a, .bool o] 27)
  replace a1 := (a1.grown g2 (fun e => by injection e with e; omega)).alloc (Obj.cells #[.int .i64 v, .int .i64 a, .bool o] 27)
  replace a2 := (a2.grown g2 (fun e => by injection e with e; omega))
  have hbr := a2.lt
  replace a2 := a2.alloc (Obj.cells #[.int .i64 v, .int .i64 a, .bool o] 27)
  have a3 := Has.fresh w4 27 #[.int .i64 v, .int .i64 a, .bool o]
  replace g0 := gr_alloc (gr_past g0 g2 (by omega)) (Obj.cells #[.int .i64 v, .int .i64 a, .bool o] 27)
  replace h4 := h4.alloc (Obj.cells #[.int .i64 v, .int .i64 a, .bool o] 27)
  clear g2 h2
  go_upto_region 1 with fail
  generalize w4.alloc (Obj.cells #[.int .i64 v, .int .i64 a, .bool o] 27) = w5 at *
  obtain ⟨br, hbr0⟩ : ∃ y, y = w4.heap.size := ⟨_, rfl⟩
  rw [← hbr0] at a3 hbr ⊢
  clear hbr0
  go_wp2_with fail
  refine (below b n c q _ 500 hn h4 (by omega)).mono ?_
  rintro e w6 ⟨x, ⟨x0, x1⟩, rfl, g6, h6⟩
  go_wp2_with fail
  refine (once b n c q _ 2 hn h6 (by omega)).mono ?_
  rintro e w7 ⟨u, rfl, g7, h7⟩
  have g8 := gr_trans g6 g7
  replace a0 := a0.grown g8 (fun e => by injection e with e; omega)
  replace a1 := a1.grown g8 (fun e => by injection e with e; omega)
  replace a2 := a2.grown g8 (fun e => by injection e with e; omega)
  replace a3 := a3.grown g8 (fun e => by injection e with e; omega)
  replace g0 := gr_past g0 g8 (by omega)
  clear g6 g7 g8 h4 h6
  obtain ⟨c0, c1, c2, _, _, _⟩ := rd.three a2
  obtain ⟨d0, d1, d2, _, _, _⟩ := rd.three a3
  cases u
  · obtain ⟨p0, p1, p2, f0, f1, f2⟩ := rd.three a0
    obtain ⟨q0, q1, q2, e0, e1, e2⟩ := rd.three a1
    go_wp2_with fail
    have g5 := gr_drewN g0 1
    have B : Bx w7 bg br 25 27 lo hi ra v a o := ⟨a2, a3⟩
    have hw0 : w.heap.size ≠ bg := (by omega)
    have hw1 : w.heap.size + 1 ≠ bg := (by omega)
    have K0 : Bx (((w7.setCell ⟨w.heap.size, 0, none⟩ (.int .i64 lo)).setCell ⟨w.heap.size, 1, none⟩ (.int .i64 hi)).setCell ⟨w.heap.size, 2, none⟩ (.int .i64 ra)).drew bg br 25 27 lo hi ra v a o := (B.three_ hw0 (by omega) _ _ _).drew
    have K1 : Bx (((w7.setCell ⟨w.heap.size + 1, 0, none⟩ (.int .i64 v)).setCell ⟨w.heap.size + 1, 1, none⟩ (.int .i64 a)).setCell ⟨w.heap.size + 1, 2, none⟩ (.bool o)).drew bg br 25 27 lo hi ra v a o := (B.three_ hw1 (by omega) _ _ _).drew
    have K01 : Bx ((((((w7.setCell ⟨w.heap.size, 0, none⟩ (.int .i64 lo)).setCell ⟨w.heap.size, 1, none⟩ (.int .i64 hi)).setCell ⟨w.heap.size, 2, none⟩ (.int .i64 ra)).setCell ⟨w.heap.size + 1, 0, none⟩ (.int .i64 v)).setCell ⟨w.heap.size + 1, 1, none⟩ (.int .i64 a)).setCell ⟨w.heap.size + 1, 2, none⟩ (.bool o)).drew bg br 25 27 lo hi ra v a o := ((B.three_ hw0 (by omega) _ _ _).three_ hw1 (by omega) _ _ _).drew
    have K10 : Bx ((((((w7.setCell ⟨w.heap.size + 1, 0, none⟩ (.int .i64 v)).setCell ⟨w.heap.size + 1, 1, none⟩ (.int .i64 a)).setCell ⟨w.heap.size + 1, 2, none⟩ (.bool o)).setCell ⟨w.heap.size, 0, none⟩ (.int .i64 lo)).setCell ⟨w.heap.size, 1, none⟩ (.int .i64 hi)).setCell ⟨w.heap.size, 2, none⟩ (.int .i64 ra)).drew bg br 25 27 lo hi ra v a o := ((B.three_ hw1 (by omega) _ _ _).three_ hw0 (by omega) _ _ _).drew
    have J01 : Bx ((((((w7.setCell ⟨w.heap.size, 0, none⟩ (.int .i64 lo)).setCell ⟨w.heap.size, 1, none⟩ (.int .i64 hi)).setCell ⟨w.heap.size, 2, none⟩ (.int .i64 ra)).setCell ⟨w.heap.size + 1, 0, none⟩ (.int .i64 v)).setCell ⟨w.heap.size + 1, 1, none⟩ (.int .i64 a)).setCell ⟨w.heap.size + 1, 2, none⟩ (.bool o)).drew w.heap.size (w.heap.size + 1) 25 27 lo hi ra v a o := (Bx.put01 (g := w.heap.size) (h := w.heap.size + 1) (by omega) a0 a1).drew
    have J10 : Bx ((((((w7.setCell ⟨w.heap.size + 1, 0, none⟩ (.int .i64 v)).setCell ⟨w.heap.size + 1, 1, none⟩ (.int .i64 a)).setCell ⟨w.heap.size + 1, 2, none⟩ (.bool o)).setCell ⟨w.heap.size, 0, none⟩ (.int .i64 lo)).setCell ⟨w.heap.size, 1, none⟩ (.int .i64 hi)).setCell ⟨w.heap.size, 2, none⟩ (.int .i64 ra)).drew w.heap.size (w.heap.size + 1) 25 27 lo hi ra v a o := (Bx.put10 (g := w.heap.size) (h := w.heap.size + 1) (by omega) a0 a1).drew
    have g01 : w.grownBy ((((((w7.setCell ⟨w.heap.size, 0, none⟩ (.int .i64 lo)).setCell ⟨w.heap.size, 1, none⟩ (.int .i64 hi)).setCell ⟨w.heap.size, 2, none⟩ (.int .i64 ra)).setCell ⟨w.heap.size + 1, 0, none⟩ (.int .i64 v)).setCell ⟨w.heap.size + 1, 1, none⟩ (.int .i64 a)).setCell ⟨w.heap.size + 1, 2, none⟩ (.bool o)).drew none := gr_drewN (gr_new (gr_new (gr_new (gr_new (gr_new (gr_new g0 (by omega) _ _) (by omega) _ _) (by omega) _ _) (by omega) _ _) (by omega) _ _) (by omega) _ _) 1
    have g10 : w.grownBy ((((((w7.setCell ⟨w.heap.size + 1, 0, none⟩ (.int .i64 v)).setCell ⟨w.heap.size + 1, 1, none⟩ (.int .i64 a)).setCell ⟨w.heap.size + 1, 2, none⟩ (.bool o)).setCell ⟨w.heap.size, 0, none⟩ (.int .i64 lo)).setCell ⟨w.heap.size, 1, none⟩ (.int .i64 hi)).setCell ⟨w.heap.size, 2, none⟩ (.int .i64 ra)).drew none := gr_drewN (gr_new (gr_new (gr_new (gr_new (gr_new (gr_new g0 (by omega) _ _) (by omega) _ _) (by omega) _ _) (by omega) _ _) (by omega) _ _) (by omega) _ _) 1
    go_region_held3 (fun W => (W.cell? ⟨bg, 0, none⟩ = some (.int .i64 lo) ∧ W.cell? ⟨bg, 1, none⟩ = some (.int .i64 hi) ∧ W.cell? ⟨bg, 2, none⟩ = some (.int .i64 ra)) ∧ W.cell? ⟨br, 0, none⟩ = some (.int .i64 v) ∧ W.cell? ⟨br, 1, none⟩ = some (.int .i64 a) ∧ W.cell? ⟨br, 2, none⟩ = some (.bool o)) (first | with_reducible exact B.drew.cells | with_reducible exact K0.cells | with_reducible exact K1.cells | with_reducible exact K01.cells | with_reducible exact K10.cells) (fail)
    all_goals clear K0 K1 K01 K10 B c0 c1 c2 d0 d1 d2 p0 p1 p2 f0 f1 f2 q0 q1 q2 e0 e1 e2
    all_goals go_wp2_with fail
    all_goals first
      | (obtain ⟨⟨r0, r1, r2⟩, s0, s1, s2⟩ := J01.cells; exact bodyPost_ret (v := .tuple #[.agg #[.int .i64 lo, .int .i64 hi, .int .i64 ra], .agg #[.int .i64 v, .int .i64 a, .bool o], .int .i64 (x - 50)]) (by simp [results, Tryd.results20, go_sem, r0, r1, r2, s0, s1, s2]) rfl ⟨lo, hi, ra, v, a, o, _, rfl, g01⟩)
      | (obtain ⟨⟨r0, r1, r2⟩, s0, s1, s2⟩ := J10.cells; exact bodyPost_ret (v := .tuple #[.agg #[.int .i64 lo, .int .i64 hi, .int .i64 ra], .agg #[.int .i64 v, .int .i64 a, .bool o], .int .i64 (x - 50)]) (by simp [results, Tryd.results20, go_sem, r0, r1, r2, s0, s1, s2]) rfl ⟨lo, hi, ra, v, a, o, _, rfl, g10⟩)

  · have h7d : Cur b n c w7.drew q := h7
    have b0 := a0.drewN 1
    have b1 := a1.drewN 1
    have b2 := a2.drewN 1
    have b3 := a3.drewN 1
    go_wp2_with fail
    go_region_held3 (fun W => W.cell? ⟨br, 0, none⟩ = some (.int .i64 v)) (first | exact d0 | exact k0) (first | (go_at_call 37; refine (from_ b n c q _ (-130) 130 hn h7d (by omega) (by omega) (by omega) (by omega)).mono ?_; rintro e w8 ⟨y, hy, rfl, g8, h8⟩; have k0 := (b3.grown g8 (fun e => by injection e with e; omega)).cell 0))
    replace a0 := b0.grown g8 (fun e => by injection e with e; omega)
    replace a1 := b1.grown g8 (fun e => by injection e with e; omega)
    replace a2 := b2.grown g8 (fun e => by injection e with e; omega)
    replace a3 := b3.grown g8 (fun e => by injection e with e; omega)
    replace g0 := gr_past (gr_drewN g0 1) g8 (by omega)
    clear b0 b1 b2 b3 c0 c1 c2 d0 d1 d2 k0 h7d g8 x0 x1 hy
    obtain ⟨c0, c1, c2, _, _, _⟩ := rd.three a2
    obtain ⟨d0, d1, d2, _, _, _⟩ := rd.three a3
    obtain ⟨p0, p1, p2, f0, f1, f2⟩ := rd.three a0
    obtain ⟨q0, q1, q2, e0, e1, e2⟩ := rd.three a1
    generalize IntKind.i64.wrap (v + y) = z at *
    go_wp2_with fail
    have g5 := gr_drewN g0 1
    have B : Bx w8 bg br 25 27 lo hi ra v a o := ⟨a2, a3⟩
    have hw0 : w.heap.size ≠ bg := (by omega)
    have hw1 : w.heap.size + 1 ≠ bg := (by omega)
    have K0 : Bx (((w8.setCell ⟨w.heap.size, 0, none⟩ (.int .i64 lo)).setCell ⟨w.heap.size, 1, none⟩ (.int .i64 hi)).setCell ⟨w.heap.size, 2, none⟩ (.int .i64 ra)).drew bg br 25 27 lo hi ra v a o := (B.three_ hw0 (by omega) _ _ _).drew
    have K1 : Bx (((w8.setCell ⟨w.heap.size + 1, 0, none⟩ (.int .i64 v)).setCell ⟨w.heap.size + 1, 1, none⟩ (.int .i64 a)).setCell ⟨w.heap.size + 1, 2, none⟩ (.bool o)).drew bg br 25 27 lo hi ra v a o := (B.three_ hw1 (by omega) _ _ _).drew
    have K01 : Bx ((((((w8.setCell ⟨w.heap.size, 0, none⟩ (.int .i64 lo)).setCell ⟨w.heap.size, 1, none⟩ (.int .i64 hi)).setCell ⟨w.heap.size, 2, none⟩ (.int .i64 ra)).setCell ⟨w.heap.size + 1, 0, none⟩ (.int .i64 v)).setCell ⟨w.heap.size + 1, 1, none⟩ (.int .i64 a)).setCell ⟨w.heap.size + 1, 2, none⟩ (.bool o)).drew bg br 25 27 lo hi ra v a o := ((B.three_ hw0 (by omega) _ _ _).three_ hw1 (by omega) _ _ _).drew
    have K10 : Bx ((((((w8.setCell ⟨w.heap.size + 1, 0, none⟩ (.int .i64 v)).setCell ⟨w.heap.size + 1, 1, none⟩ (.int .i64 a)).setCell ⟨w.heap.size + 1, 2, none⟩ (.bool o)).setCell ⟨w.heap.size, 0, none⟩ (.int .i64 lo)).setCell ⟨w.heap.size, 1, none⟩ (.int .i64 hi)).setCell ⟨w.heap.size, 2, none⟩ (.int .i64 ra)).drew bg br 25 27 lo hi ra v a o := ((B.three_ hw1 (by omega) _ _ _).three_ hw0 (by omega) _ _ _).drew
    have J01 : Bx ((((((w8.setCell ⟨w.heap.size, 0, none⟩ (.int .i64 lo)).setCell ⟨w.heap.size, 1, none⟩ (.int .i64 hi)).setCell ⟨w.heap.size, 2, none⟩ (.int .i64 ra)).setCell ⟨w.heap.size + 1, 0, none⟩ (.int .i64 v)).setCell ⟨w.heap.size + 1, 1, none⟩ (.int .i64 a)).setCell ⟨w.heap.size + 1, 2, none⟩ (.bool o)).drew w.heap.size (w.heap.size + 1) 25 27 lo hi ra v a o := (Bx.put01 (g := w.heap.size) (h := w.heap.size + 1) (by omega) a0 a1).drew
    have J10 : Bx ((((((w8.setCell ⟨w.heap.size + 1, 0, none⟩ (.int .i64 v)).setCell ⟨w.heap.size + 1, 1, none⟩ (.int .i64 a)).setCell ⟨w.heap.size + 1, 2, none⟩ (.bool o)).setCell ⟨w.heap.size, 0, none⟩ (.int .i64 lo)).setCell ⟨w.heap.size, 1, none⟩ (.int .i64 hi)).setCell ⟨w.heap.size, 2, none⟩ (.int .i64 ra)).drew w.heap.size (w.heap.size + 1) 25 27 lo hi ra v a o := (Bx.put10 (g := w.heap.size) (h := w.heap.size + 1) (by omega) a0 a1).drew
    have g01 : w.grownBy ((((((w8.setCell ⟨w.heap.size, 0, none⟩ (.int .i64 lo)).setCell ⟨w.heap.size, 1, none⟩ (.int .i64 hi)).setCell ⟨w.heap.size, 2, none⟩ (.int .i64 ra)).setCell ⟨w.heap.size + 1, 0, none⟩ (.int .i64 v)).setCell ⟨w.heap.size + 1, 1, none⟩ (.int .i64 a)).setCell ⟨w.heap.size + 1, 2, none⟩ (.bool o)).drew none := gr_drewN (gr_new (gr_new (gr_new (gr_new (gr_new (gr_new g0 (by omega) _ _) (by omega) _ _) (by omega) _ _) (by omega) _ _) (by omega) _ _) (by omega) _ _) 1
    have g10 : w.grownBy ((((((w8.setCell ⟨w.heap.size + 1, 0, none⟩ (.int .i64 v)).setCell ⟨w.heap.size + 1, 1, none⟩ (.int .i64 a)).setCell ⟨w.heap.size + 1, 2, none⟩ (.bool o)).setCell ⟨w.heap.size, 0, none⟩ (.int .i64 lo)).setCell ⟨w.heap.size, 1, none⟩ (.int .i64 hi)).setCell ⟨w.heap.size, 2, none⟩ (.int .i64 ra)).drew none := gr_drewN (gr_new (gr_new (gr_new (gr_new (gr_new (gr_new g0 (by omega) _ _) (by omega) _ _) (by omega) _ _) (by omega) _ _) (by omega) _ _) (by omega) _ _) 1
    go_region_held3 (fun W => (W.cell? ⟨bg, 0, none⟩ = some (.int .i64 lo) ∧ W.cell? ⟨bg, 1, none⟩ = some (.int .i64 hi) ∧ W.cell? ⟨bg, 2, none⟩ = some (.int .i64 ra)) ∧ W.cell? ⟨br, 0, none⟩ = some (.int .i64 v) ∧ W.cell? ⟨br, 1, none⟩ = some (.int .i64 a) ∧ W.cell? ⟨br, 2, none⟩ = some (.bool o)) (first | with_reducible exact B.drew.cells | with_reducible exact K0.cells | with_reducible exact K1.cells | with_reducible exact K01.cells | with_reducible exact K10.cells) (fail)
    all_goals clear K0 K1 K01 K10 B c0 c1 c2 d0 d1 d2 p0 p1 p2 f0 f1 f2 q0 q1 q2 e0 e1 e2
    all_goals go_wp2_with fail
    all_goals first
      | (obtain ⟨⟨r0, r1, r2⟩, s0, s1, s2⟩ := J01.cells; exact bodyPost_ret (v := .tuple #[.agg #[.int .i64 lo, .int .i64 hi, .int .i64 ra], .agg #[.int .i64 v, .int .i64 a, .bool o], .int .i64 (z)]) (by simp [results, Tryd.results20, go_sem, r0, r1, r2, s0, s1, s2]) rfl ⟨lo, hi, ra, v, a, o, _, rfl, g01⟩)
      | (obtain ⟨⟨r0, r1, r2⟩, s0, s1, s2⟩ := J10.cells; exact bodyPost_ret (v := .tuple #[.agg #[.int .i64 lo, .int .i64 hi, .int .i64 ra], .agg #[.int .i64 v, .int .i64 a, .bool o], .int .i64 (z)]) (by simp [results, Tryd.results20, go_sem, r0, r1, r2, s0, s1, s2]) rfl ⟨lo, hi, ra, v, a, o, _, rfl, g10⟩)

set_option maxHeartbeats 1000000 in
theorem drawTaken (b : Option Addr) (n c : Nat) (w : World) (hn : n ≤ 4096) (hb : Bytes w w.heap.size b n) :
    Calls Tryd.prog 7 #[.slice b n c] w (DrawnGR w) := by
  have a0 := (Has.fresh w 25 #[.int .i64 0, .int .i64 0, .int .i64 0]).alloc (Obj.cells #[.int .i64 0, .int .i64 0, .bool false] 27)
  have a1 := rd.fresh1 w (Obj.cells #[.int .i64 0, .int .i64 0, .int .i64 0] 25) 27 #[.int .i64 0, .int .i64 0, .bool false]
  have g0 : w.grownBy ((w.alloc (Obj.cells #[.int .i64 0, .int .i64 0, .int .i64 0] 25)).alloc (Obj.cells #[.int .i64 0, .int .i64 0, .bool false] 27)) none := gr_alloc (World.grownBy_alloc _ _ _) _
  have hb1 : Bytes ((w.alloc (Obj.cells #[.int .i64 0, .int .i64 0, .int .i64 0] 25)).alloc (Obj.cells #[.int .i64 0, .int .i64 0, .bool false] 27)) ((w.alloc (Obj.cells #[.int .i64 0, .int .i64 0, .int .i64 0] 25)).alloc (Obj.cells #[.int .i64 0, .int .i64 0, .bool false] 27)).heap.size b n := (hb.below (Nat.le_refl _) (below_of_none g0)).more (by simp; omega)
  go_enter Tryd.func7, Tryd.ntmps7
  go_wp2_with fail
  refine (drawIsSane b n c _ hn hb1).mono ?_
  rintro e w7 ⟨lo, hi, ra, v, a, o, x, rfl, g1⟩
  replace a0 := a0.grown g1 (by simp)
  replace a1 := a1.grown g1 (by simp)
  replace g0 := gr_trans g0 g1
  obtain ⟨p0, p1, p2, f0, f1, f2⟩ := rd.three a0
  obtain ⟨q0, q1, q2, e0, e1, e2⟩ := rd.three a1
  have J01 : Bx ((((((w7.setCell ⟨w.heap.size, 0, none⟩ (.int .i64 lo)).setCell ⟨w.heap.size, 1, none⟩ (.int .i64 hi)).setCell ⟨w.heap.size, 2, none⟩ (.int .i64 ra)).setCell ⟨w.heap.size + 1, 0, none⟩ (.int .i64 v)).setCell ⟨w.heap.size + 1, 1, none⟩ (.int .i64 a)).setCell ⟨w.heap.size + 1, 2, none⟩ (.bool o)) w.heap.size (w.heap.size + 1) 25 27 lo hi ra v a o := Bx.put01 (g := w.heap.size) (h := w.heap.size + 1) (by omega) a0 a1
  have g01 : w.grownBy ((((((w7.setCell ⟨w.heap.size, 0, none⟩ (.int .i64 lo)).setCell ⟨w.heap.size, 1, none⟩ (.int .i64 hi)).setCell ⟨w.heap.size, 2, none⟩ (.int .i64 ra)).setCell ⟨w.heap.size + 1, 0, none⟩ (.int .i64 v)).setCell ⟨w.heap.size + 1, 1, none⟩ (.int .i64 a)).setCell ⟨w.heap.size + 1, 2, none⟩ (.bool o)) none := gr_new (gr_new (gr_new (gr_new (gr_new (gr_new g0 (by omega) _ _) (by omega) _ _) (by omega) _ _) (by omega) _ _) (by omega) _ _) (by omega) _ _
  go_wp2_with fail
  obtain ⟨⟨r0, r1, r2⟩, s0, s1, s2⟩ := J01.cells
  exact bodyPost_ret (v := .tuple #[.agg #[.int .i64 lo, .int .i64 hi, .int .i64 ra], .agg #[.int .i64 v, .int .i64 a, .bool o], .int .i64 x]) (by simp [results, Tryd.results7, go_sem, r0, r1, r2, s0, s1, s2]) rfl ⟨lo, hi, ra, v, a, o, _, rfl, g01⟩
end Go.Proofs.YtdjaikjakdidcaaDoor.sane
