/- The draw of a fan, a wish and a reading. -/
import Derived.Test.YtdpoecebjjcicaaFaDraw
import Derived.Deep.RegionHeld3
namespace Go.Proofs.Ytdpoecebjjcicaa.fan
open Go.ChangeShapes Go.WideShapes Go.ChangeAt Go.RowKit
open Go.Proofs.Ytdpoecebjjcicaa.nums Go.Proofs.Ytdpoecebjjcicaa.mem Go.Proofs.Ytdpoecebjjcicaa.cur
open Go.Proofs.Ytdpoecebjjcicaa.rd (three set3 fresh1)
open Go.Proofs.Ytdpoecebjjcicaa.tab (Ret quiet_w wpList_make_has add_off)
set_option linter.unusedVariables false

/-- A fan and a reading in their two boxes. -/
def Bw (w : World) (g h : Nat) (s t : TypeId) (N : Int) (on out : Bool) (v a : Int) (o : Bool) : Prop := Has w g s #[.int .i64 N, .bool on, .bool out] ∧ Has w h t #[.int .i64 v, .int .i64 a, .bool o]
theorem Bw.kept {w w' : World} {g h : Nat} {s t : TypeId} {N : Int} {on out : Bool} {v a : Int} {o : Bool} (k : Bw w g h s t N on out v a o) (hg : w.grownBy w' none) : Bw w' g h s t N on out v a o := ⟨k.1.grown hg (by simp), k.2.grown hg (by simp)⟩
theorem Bw.drew {w : World} {g h : Nat} {s t : TypeId} {N : Int} {on out : Bool} {v a : Int} {o : Bool} (k : Bw w g h s t N on out v a o) : Bw w.drew g h s t N on out v a o := k
theorem Bw.three_ {w : World} {g h : Nat} {s t : TypeId} {N : Int} {on out : Bool} {v a : Int} {o : Bool} (k : Bw w g h s t N on out v a o) {x : Nat} (h1 : x ≠ g) (h2 : x ≠ h) (i j l : Value) : Bw (((w.setCell ⟨x, 0, none⟩ i).setCell ⟨x, 1, none⟩ j).setCell ⟨x, 2, none⟩ l) g h s t N on out v a o := ⟨((k.1.set_other (Ne.symm h1) _ _).set_other (Ne.symm h1) _ _).set_other (Ne.symm h1) _ _, ((k.2.set_other (Ne.symm h2) _ _).set_other (Ne.symm h2) _ _).set_other (Ne.symm h2) _ _⟩
theorem Bw.put01 {w : World} {g h : Nat} {s t : TypeId} {N N' v a v' a' : Int} {on out on' out' o o' : Bool} (hn : g ≠ h) (k1 : Has w g s #[.int .i64 N', .bool on', .bool out']) (k2 : Has w h t #[.int .i64 v', .int .i64 a', .bool o']) :
    Bw ((((((w.setCell ⟨g, 0, none⟩ (.int .i64 N)).setCell ⟨g, 1, none⟩ (.bool on)).setCell ⟨g, 2, none⟩ (.bool out)).setCell ⟨h, 0, none⟩ (.int .i64 v)).setCell ⟨h, 1, none⟩ (.int .i64 a)).setCell ⟨h, 2, none⟩ (.bool o)) g h s t N on out v a o :=
  ⟨(((set3 k1 _ _ _).set_other hn _ _).set_other hn _ _).set_other hn _ _, set3 (((k2.set_other (Ne.symm hn) _ _).set_other (Ne.symm hn) _ _).set_other (Ne.symm hn) _ _) _ _ _⟩
theorem Bw.put10 {w : World} {g h : Nat} {s t : TypeId} {N N' v a v' a' : Int} {on out on' out' o o' : Bool} (hn : g ≠ h) (k1 : Has w g s #[.int .i64 N', .bool on', .bool out']) (k2 : Has w h t #[.int .i64 v', .int .i64 a', .bool o']) :
    Bw ((((((w.setCell ⟨h, 0, none⟩ (.int .i64 v)).setCell ⟨h, 1, none⟩ (.int .i64 a)).setCell ⟨h, 2, none⟩ (.bool o)).setCell ⟨g, 0, none⟩ (.int .i64 N)).setCell ⟨g, 1, none⟩ (.bool on)).setCell ⟨g, 2, none⟩ (.bool out)) g h s t N on out v a o :=
  ⟨set3 (((k1.set_other hn _ _).set_other hn _ _).set_other hn _ _) _ _ _, (((set3 k2 _ _ _).set_other (Ne.symm hn) _ _).set_other (Ne.symm hn) _ _).set_other (Ne.symm hn) _ _⟩
theorem Bw.cells {w : World} {g h : Nat} {s t : TypeId} {N : Int} {on out : Bool} {v a : Int} {o : Bool} (k : Bw w g h s t N on out v a o) : (w.cell? ⟨g, 0, none⟩ = some (.int .i64 N) ∧ w.cell? ⟨g, 1, none⟩ = some (.bool on) ∧ w.cell? ⟨g, 2, none⟩ = some (.bool out)) ∧ w.cell? ⟨h, 0, none⟩ = some (.int .i64 v) ∧ w.cell? ⟨h, 1, none⟩ = some (.int .i64 a) ∧ w.cell? ⟨h, 2, none⟩ = some (.bool o) := ⟨⟨k.1.cell 0, k.1.cell 1, k.1.cell 2⟩, k.2.cell 0, k.2.cell 1, k.2.cell 2⟩

def pick5 (k : Nat) : Int := [-1, 99, 100, 1000, 1001].getD k 0
theorem pick5_in (k : Nat) (hk : k < 5) : -1 ≤ pick5 k ∧ pick5 k ≤ 1001 := by
  obtain rfl | rfl | rfl | rfl | rfl : k = 0 ∨ k = 1 ∨ k = 2 ∨ k = 3 ∨ k = 4 := by omega
  all_goals exact ⟨by decide, by decide⟩
theorem pick5_cell (k : Nat) (hk : k < 5) : #[Value.int .i64 (-1), .int .i64 99, .int .i64 100, .int .i64 1000, .int .i64 1001][k]? = some (.int .i64 (pick5 k)) := by
  obtain rfl | rfl | rfl | rfl | rfl : k = 0 ∨ k = 1 ∨ k = 2 ∨ k = 3 ∨ k = 4 := by omega
  all_goals rfl

theorem half_in {x : Int} (h0 : -1 ≤ x) (h1 : x ≤ 1001) : -1 ≤ x.tdiv 2 ∧ x.tdiv 2 ≤ 1000 := by
  by_cases hx : 0 ≤ x
  · rw [Int.tdiv_eq_ediv_of_nonneg hx]; omega
  · obtain rfl : x = -1 := by omega
    decide

/-- A draw of a fan, a wish and a reading. -/
def DrawnW (w : World) (e : Ending) (w' : World) : Prop :=
  ∃ (N : Int) (on out : Bool) (x v a : Int) (o : Bool), e = .returned (.tuple #[.agg #[.int .i64 N, .bool on, .bool out], .int .i64 x, .agg #[.int .i64 v, .int .i64 a, .bool o]]) ∧ (-1 ≤ N ∧ N ≤ 101) ∧ (-1 ≤ x ∧ x ≤ 1001) ∧ In64 v ∧ (-1 ≤ a ∧ a ≤ 1001) ∧ w.grownBy w' none

set_option maxHeartbeats 4000000 in
theorem drawWatched (b : Option Addr) (n c : Nat) (w : World) (hn : n ≤ 4096) (hb : Bytes w w.heap.size b n) :
    Calls Try.prog 9 #[.slice b n c] w (DrawnW w) := by
  have a0 := (Has.fresh w 27 #[.int .i64 0, .bool false, .bool false]).alloc (Obj.cells #[.int .i64 0, .int .i64 0, .bool false] 29)
  have a1 := fresh1 w (Obj.cells #[.int .i64 0, .bool false, .bool false] 27) 29 #[.int .i64 0, .int .i64 0, .bool false]
  have g0 : w.grownBy ((w.alloc (Obj.cells #[.int .i64 0, .bool false, .bool false] 27)).alloc (Obj.cells #[.int .i64 0, .int .i64 0, .bool false] 29)) none := gr_alloc (World.grownBy_alloc _ _ _) _
  have hb1 : Bytes ((w.alloc (Obj.cells #[.int .i64 0, .bool false, .bool false] 27)).alloc (Obj.cells #[.int .i64 0, .int .i64 0, .bool false] 29)) ((w.alloc (Obj.cells #[.int .i64 0, .bool false, .bool false] 27)).alloc (Obj.cells #[.int .i64 0, .int .i64 0, .bool false] 29)).heap.size b n := (hb.below (Nat.le_refl _) (below_of_none g0)).more (by simp; omega)
  go_enter Try.func9, Try.ntmps9
  go_wp2_with fail
  refine (new b n c _ hn hb1).mono ?_
  rintro e w1 ⟨q, rfl, hq, g1, h1⟩
  have hq0 : w.heap.size + 1 < q := by have : w.heap.size + 1 + 1 ≤ q := (by simpa using hq); omega
  replace a0 := a0.grown g1 (by simp)
  replace a1 := a1.grown g1 (by simp)
  replace g0 := gr_trans g0 g1
  clear hb hb1 hq g1
  go_wp2_with fail
  refine (draw b n c q _ hn h1).mono ?_
  rintro e w2 ⟨N, on, out, hN, rfl, g2, h2⟩
  replace a0 := (a0.grown g2 (fun e => by injection e with e; omega)).alloc (Obj.cells #[.int .i64 N, .bool on, .bool out] 27)
  replace a1 := (a1.grown g2 (fun e => by injection e with e; omega)).alloc (Obj.cells #[.int .i64 N, .bool on, .bool out] 27)
  have a2 := Has.fresh w2 27 #[.int .i64 N, .bool on, .bool out]
  replace g0 := gr_alloc (gr_past g0 g2 (by omega)) (Obj.cells #[.int .i64 N, .bool on, .bool out] 27)
  have hz := h2.lt
  replace h2 := h2.alloc (Obj.cells #[.int .i64 N, .bool on, .bool out] 27)
  clear g2 h1
  go_upto_region 3 with fail
  generalize w2.alloc (Obj.cells #[.int .i64 N, .bool on, .bool out] 27) = w3 at *
  obtain ⟨bg, hbg⟩ : ∃ y, y = w2.heap.size := ⟨_, rfl⟩
  rw [← hbg] at a2 hz ⊢
  clear hbg
  go_wp2_with fail
  refine (below b n c q _ 700 hn h2 (by omega)).mono ?_
  rintro e w4 ⟨x, ⟨x0, x1⟩, rfl, g4, h4⟩
  go_wp2_with fail
  refine (once b n c q _ 10 hn h4 (by omega)).mono ?_
  rintro e w5 ⟨u, rfl, g5, h5⟩
  have g6 := gr_trans g4 g5
  clear g4 g5 h4 h2
  go_upto_if 16 with fail
  go_cut [7] (fun y wx => ∃ X : Int, (-1 ≤ X ∧ X ≤ 1001) ∧ y = .int .i64 X ∧ w3.grownBy wx (some q) ∧ Cur b n c wx q)
  case first =>
    cases u
    · go_wp2_with fail
      go_meet
      exact ⟨x, ⟨by omega, by omega⟩, rfl, g6, h5⟩
    · have hf := Has.fresh w5 2 #[Value.int .i64 (-1), .int .i64 99, .int .i64 100, .int .i64 1000, .int .i64 1001]
      have hz5 := h5.lt
      go_wp2_with fail
      refine (below b n c q _ 5 hn (h5.alloc _) (by omega)).mono ?_
      rintro e w7 ⟨y, ⟨y0, y1⟩, rfl, g7, h7⟩
      replace hf := hf.grown g7 (fun e => by injection e with e; omega)
      obtain ⟨k, rfl⟩ := Int.eq_ofNat_of_zero_le y0
      have hk : k < 5 := by omega
      have hc := hf.cell k
      rw [pick5_cell k hk] at hc
      have hP := pick5_in k hk
      generalize pick5 k = P at hc hP
      go_wp2_with fail
      go_meet
      exact ⟨P, hP, rfl, gr_trans (gr_alloc g6 _) g7, h7⟩
  case rest =>
    clear x0 x1 g6 h5
    obtain ⟨X, hx, rfl, g6, h5⟩ := hcut
    replace a0 := a0.grown g6 (fun e => by injection e with e; omega)
    replace a1 := a1.grown g6 (fun e => by injection e with e; omega)
    replace a2 := a2.grown g6 (fun e => by injection e with e; omega)
    replace g0 := gr_past g0 g6 (by omega)
    clear g6 x
    obtain ⟨x, hxe⟩ : ∃ x, x = X := ⟨X, rfl⟩
    subst hxe
    go_wp2_with fail
    refine (rd.drawAny b n c q _ hn h5).mono ?_
    rintro e w8 ⟨v, a, o, ⟨hv, ha⟩, rfl, g2, h8⟩
    replace a0 := (a0.grown g2 (fun e => by injection e with e; omega)).alloc (Obj.cells #[.int .i64 v, .int .i64 a, .bool o] 29)
    replace a1 := (a1.grown g2 (fun e => by injection e with e; omega)).alloc (Obj.cells #[.int .i64 v, .int .i64 a, .bool o] 29)
    replace a2 := (a2.grown g2 (fun e => by injection e with e; omega))
    have hbr := a2.lt
    replace a2 := a2.alloc (Obj.cells #[.int .i64 v, .int .i64 a, .bool o] 29)
    have a3 := Has.fresh w8 29 #[.int .i64 v, .int .i64 a, .bool o]
    replace g0 := gr_alloc (gr_past g0 g2 (by omega)) (Obj.cells #[.int .i64 v, .int .i64 a, .bool o] 29)
    replace h8 := h8.alloc (Obj.cells #[.int .i64 v, .int .i64 a, .bool o] 29)
    clear g2 h5
    go_upto_region 7 with fail
    generalize w8.alloc (Obj.cells #[.int .i64 v, .int .i64 a, .bool o] 29) = w9 at *
    obtain ⟨br, hbr0⟩ : ∃ y, y = w8.heap.size := ⟨_, rfl⟩
    rw [← hbr0] at a3 hbr ⊢
    clear hbr0
    go_wp2_with fail
    refine (once b n c q _ 3 hn h8 (by omega)).mono ?_
    rintro e w10 ⟨u, rfl, g8, h10⟩
    replace a0 := a0.grown g8 (fun e => by injection e with e; omega)
    replace a1 := a1.grown g8 (fun e => by injection e with e; omega)
    replace a2 := a2.grown g8 (fun e => by injection e with e; omega)
    replace a3 := a3.grown g8 (fun e => by injection e with e; omega)
    replace g0 := gr_past g0 g8 (by omega)
    clear g8 h8
    cases u
    · skip
      obtain ⟨p0, p1, p2, f0, f1, f2⟩ := three a0
      obtain ⟨q0, q1, q2, e0, e1, e2⟩ := three a1
      obtain ⟨c0, c1, c2, _, _, _⟩ := three a2
      obtain ⟨d0, d1, d2, _, _, _⟩ := three a3
      go_wp2_with fail
      have B : Bw w10 bg br 27 29 N on out v a o := ⟨a2, a3⟩
      have hw0 : w.heap.size ≠ bg := (by omega)
      have hw1 : w.heap.size + 1 ≠ bg := (by omega)
      have K0 : Bw (((w10.setCell ⟨w.heap.size, 0, none⟩ (.int .i64 N)).setCell ⟨w.heap.size, 1, none⟩ (.bool on)).setCell ⟨w.heap.size, 2, none⟩ (.bool out)).drew bg br 27 29 N on out v a o := (B.three_ hw0 (by omega) _ _ _).drew
      have K1 : Bw (((w10.setCell ⟨w.heap.size + 1, 0, none⟩ (.int .i64 v)).setCell ⟨w.heap.size + 1, 1, none⟩ (.int .i64 a)).setCell ⟨w.heap.size + 1, 2, none⟩ (.bool o)).drew bg br 27 29 N on out v a o := (B.three_ hw1 (by omega) _ _ _).drew
      have K01 : Bw ((((((w10.setCell ⟨w.heap.size, 0, none⟩ (.int .i64 N)).setCell ⟨w.heap.size, 1, none⟩ (.bool on)).setCell ⟨w.heap.size, 2, none⟩ (.bool out)).setCell ⟨w.heap.size + 1, 0, none⟩ (.int .i64 v)).setCell ⟨w.heap.size + 1, 1, none⟩ (.int .i64 a)).setCell ⟨w.heap.size + 1, 2, none⟩ (.bool o)).drew bg br 27 29 N on out v a o := ((B.three_ hw0 (by omega) _ _ _).three_ hw1 (by omega) _ _ _).drew
      have K10 : Bw ((((((w10.setCell ⟨w.heap.size + 1, 0, none⟩ (.int .i64 v)).setCell ⟨w.heap.size + 1, 1, none⟩ (.int .i64 a)).setCell ⟨w.heap.size + 1, 2, none⟩ (.bool o)).setCell ⟨w.heap.size, 0, none⟩ (.int .i64 N)).setCell ⟨w.heap.size, 1, none⟩ (.bool on)).setCell ⟨w.heap.size, 2, none⟩ (.bool out)).drew bg br 27 29 N on out v a o := ((B.three_ hw1 (by omega) _ _ _).three_ hw0 (by omega) _ _ _).drew
      have J01 : Bw ((((((w10.setCell ⟨w.heap.size, 0, none⟩ (.int .i64 N)).setCell ⟨w.heap.size, 1, none⟩ (.bool on)).setCell ⟨w.heap.size, 2, none⟩ (.bool out)).setCell ⟨w.heap.size + 1, 0, none⟩ (.int .i64 v)).setCell ⟨w.heap.size + 1, 1, none⟩ (.int .i64 a)).setCell ⟨w.heap.size + 1, 2, none⟩ (.bool o)).drew w.heap.size (w.heap.size + 1) 27 29 N on out v a o := (Bw.put01 (g := w.heap.size) (h := w.heap.size + 1) (by omega) a0 a1).drew
      have J10 : Bw ((((((w10.setCell ⟨w.heap.size + 1, 0, none⟩ (.int .i64 v)).setCell ⟨w.heap.size + 1, 1, none⟩ (.int .i64 a)).setCell ⟨w.heap.size + 1, 2, none⟩ (.bool o)).setCell ⟨w.heap.size, 0, none⟩ (.int .i64 N)).setCell ⟨w.heap.size, 1, none⟩ (.bool on)).setCell ⟨w.heap.size, 2, none⟩ (.bool out)).drew w.heap.size (w.heap.size + 1) 27 29 N on out v a o := (Bw.put10 (g := w.heap.size) (h := w.heap.size + 1) (by omega) a0 a1).drew
      have g01 : w.grownBy ((((((w10.setCell ⟨w.heap.size, 0, none⟩ (.int .i64 N)).setCell ⟨w.heap.size, 1, none⟩ (.bool on)).setCell ⟨w.heap.size, 2, none⟩ (.bool out)).setCell ⟨w.heap.size + 1, 0, none⟩ (.int .i64 v)).setCell ⟨w.heap.size + 1, 1, none⟩ (.int .i64 a)).setCell ⟨w.heap.size + 1, 2, none⟩ (.bool o)).drew none := gr_drewN (gr_new (gr_new (gr_new (gr_new (gr_new (gr_new g0 (by omega) _ _) (by omega) _ _) (by omega) _ _) (by omega) _ _) (by omega) _ _) (by omega) _ _) 1
      have g10 : w.grownBy ((((((w10.setCell ⟨w.heap.size + 1, 0, none⟩ (.int .i64 v)).setCell ⟨w.heap.size + 1, 1, none⟩ (.int .i64 a)).setCell ⟨w.heap.size + 1, 2, none⟩ (.bool o)).setCell ⟨w.heap.size, 0, none⟩ (.int .i64 N)).setCell ⟨w.heap.size, 1, none⟩ (.bool on)).setCell ⟨w.heap.size, 2, none⟩ (.bool out)).drew none := gr_drewN (gr_new (gr_new (gr_new (gr_new (gr_new (gr_new g0 (by omega) _ _) (by omega) _ _) (by omega) _ _) (by omega) _ _) (by omega) _ _) (by omega) _ _) 1
      go_region_held3 (fun W => (W.cell? ⟨bg, 0, none⟩ = some (.int .i64 N) ∧ W.cell? ⟨bg, 1, none⟩ = some (.bool on) ∧ W.cell? ⟨bg, 2, none⟩ = some (.bool out)) ∧ W.cell? ⟨br, 0, none⟩ = some (.int .i64 v) ∧ W.cell? ⟨br, 1, none⟩ = some (.int .i64 a) ∧ W.cell? ⟨br, 2, none⟩ = some (.bool o)) (first | with_reducible exact B.drew.cells | with_reducible exact K0.cells | with_reducible exact K1.cells | with_reducible exact K01.cells | with_reducible exact K10.cells) (fail)
      all_goals clear K0 K1 K01 K10 B c0 c1 c2 d0 d1 d2 p0 p1 p2 f0 f1 f2 q0 q1 q2 e0 e1 e2
      all_goals go_wp2_with fail
      all_goals first
        | (obtain ⟨⟨r0, r1, r2⟩, s0, s1, s2⟩ := J01.cells; exact bodyPost_ret (v := .tuple #[.agg #[.int .i64 N, .bool on, .bool out], .int .i64 x, .agg #[.int .i64 v, .int .i64 a, .bool o]]) (by simp [results, Try.results9, go_sem, r0, r1, r2, s0, s1, s2]) rfl ⟨N, on, out, x, v, a, o, rfl, hN, hx, hv, ha, g01⟩)
        | (obtain ⟨⟨r0, r1, r2⟩, s0, s1, s2⟩ := J10.cells; exact bodyPost_ret (v := .tuple #[.agg #[.int .i64 N, .bool on, .bool out], .int .i64 x, .agg #[.int .i64 v, .int .i64 a, .bool o]]) (by simp [results, Try.results9, go_sem, r0, r1, r2, s0, s1, s2]) rfl ⟨N, on, out, x, v, a, o, rfl, hN, hx, hv, ha, g10⟩)
    · go_wp2_with fail
      refine (from_ b n c q _ (-1) 1 hn h10 (by omega) (by omega) (by omega) (by omega)).mono ?_
      rintro e w11 ⟨y, ⟨y0, y1⟩, rfl, g8, h11⟩
      replace a0 := a0.grown g8 (fun e => by injection e with e; omega)
      replace a1 := a1.grown g8 (fun e => by injection e with e; omega)
      replace a2 := a2.grown g8 (fun e => by injection e with e; omega)
      replace a3 := a3.grown g8 (fun e => by injection e with e; omega)
      replace g0 := gr_past g0 g8 (by omega)
      clear g8 h10 hv
      obtain ⟨d0, d1, d2, e0, e1, e2⟩ := three a3
      obtain ⟨t0, t1⟩ := half_in hx.1 hx.2
      go_upto_region 9 with fail
      have hv : In64 (x.tdiv 2 + y) := by unfold In64; omega
      clear t0 t1
      obtain ⟨z, hz0⟩ : ∃ z, z = x.tdiv 2 + y := ⟨_, rfl⟩
      rw [← hz0] at hv ⊢
      clear hz0 d0 d1 d2 e0 e1 e2
      have hne : w.heap.size ≠ br := (by omega)
      have hne1 : w.heap.size + 1 ≠ br := (by omega)
      have hne2 : bg ≠ br := (by omega)
      replace a0 := a0.set_other hne 0 (.int .i64 z)
      replace a1 := a1.set_other hne1 0 (.int .i64 z)
      replace a2 := a2.set_other hne2 0 (.int .i64 z)
      replace a3 := a3.put 0 (.int .i64 z) rfl
      replace g0 := gr_new g0 (g := br) (by omega) 0 (.int .i64 z)
      generalize w11.setCell ⟨br, 0, none⟩ (.int .i64 z) = w12 at *
      obtain ⟨p0, p1, p2, f0, f1, f2⟩ := three a0
      obtain ⟨q0, q1, q2, e0, e1, e2⟩ := three a1
      obtain ⟨c0, c1, c2, _, _, _⟩ := three a2
      obtain ⟨d0, d1, d2, _, _, _⟩ := three a3
      go_wp2_with fail
      have B : Bw w12 bg br 27 29 N on out z a o := ⟨a2, a3⟩
      have hw0 : w.heap.size ≠ bg := (by omega)
      have hw1 : w.heap.size + 1 ≠ bg := (by omega)
      have K0 : Bw (((w12.setCell ⟨w.heap.size, 0, none⟩ (.int .i64 N)).setCell ⟨w.heap.size, 1, none⟩ (.bool on)).setCell ⟨w.heap.size, 2, none⟩ (.bool out)).drew bg br 27 29 N on out z a o := (B.three_ hw0 (by omega) _ _ _).drew
      have K1 : Bw (((w12.setCell ⟨w.heap.size + 1, 0, none⟩ (.int .i64 z)).setCell ⟨w.heap.size + 1, 1, none⟩ (.int .i64 a)).setCell ⟨w.heap.size + 1, 2, none⟩ (.bool o)).drew bg br 27 29 N on out z a o := (B.three_ hw1 (by omega) _ _ _).drew
      have K01 : Bw ((((((w12.setCell ⟨w.heap.size, 0, none⟩ (.int .i64 N)).setCell ⟨w.heap.size, 1, none⟩ (.bool on)).setCell ⟨w.heap.size, 2, none⟩ (.bool out)).setCell ⟨w.heap.size + 1, 0, none⟩ (.int .i64 z)).setCell ⟨w.heap.size + 1, 1, none⟩ (.int .i64 a)).setCell ⟨w.heap.size + 1, 2, none⟩ (.bool o)).drew bg br 27 29 N on out z a o := ((B.three_ hw0 (by omega) _ _ _).three_ hw1 (by omega) _ _ _).drew
      have K10 : Bw ((((((w12.setCell ⟨w.heap.size + 1, 0, none⟩ (.int .i64 z)).setCell ⟨w.heap.size + 1, 1, none⟩ (.int .i64 a)).setCell ⟨w.heap.size + 1, 2, none⟩ (.bool o)).setCell ⟨w.heap.size, 0, none⟩ (.int .i64 N)).setCell ⟨w.heap.size, 1, none⟩ (.bool on)).setCell ⟨w.heap.size, 2, none⟩ (.bool out)).drew bg br 27 29 N on out z a o := ((B.three_ hw1 (by omega) _ _ _).three_ hw0 (by omega) _ _ _).drew
      have J01 : Bw ((((((w12.setCell ⟨w.heap.size, 0, none⟩ (.int .i64 N)).setCell ⟨w.heap.size, 1, none⟩ (.bool on)).setCell ⟨w.heap.size, 2, none⟩ (.bool out)).setCell ⟨w.heap.size + 1, 0, none⟩ (.int .i64 z)).setCell ⟨w.heap.size + 1, 1, none⟩ (.int .i64 a)).setCell ⟨w.heap.size + 1, 2, none⟩ (.bool o)).drew w.heap.size (w.heap.size + 1) 27 29 N on out z a o := (Bw.put01 (g := w.heap.size) (h := w.heap.size + 1) (by omega) a0 a1).drew
      have J10 : Bw ((((((w12.setCell ⟨w.heap.size + 1, 0, none⟩ (.int .i64 z)).setCell ⟨w.heap.size + 1, 1, none⟩ (.int .i64 a)).setCell ⟨w.heap.size + 1, 2, none⟩ (.bool o)).setCell ⟨w.heap.size, 0, none⟩ (.int .i64 N)).setCell ⟨w.heap.size, 1, none⟩ (.bool on)).setCell ⟨w.heap.size, 2, none⟩ (.bool out)).drew w.heap.size (w.heap.size + 1) 27 29 N on out z a o := (Bw.put10 (g := w.heap.size) (h := w.heap.size + 1) (by omega) a0 a1).drew
      have g01 : w.grownBy ((((((w12.setCell ⟨w.heap.size, 0, none⟩ (.int .i64 N)).setCell ⟨w.heap.size, 1, none⟩ (.bool on)).setCell ⟨w.heap.size, 2, none⟩ (.bool out)).setCell ⟨w.heap.size + 1, 0, none⟩ (.int .i64 z)).setCell ⟨w.heap.size + 1, 1, none⟩ (.int .i64 a)).setCell ⟨w.heap.size + 1, 2, none⟩ (.bool o)).drew none := gr_drewN (gr_new (gr_new (gr_new (gr_new (gr_new (gr_new g0 (by omega) _ _) (by omega) _ _) (by omega) _ _) (by omega) _ _) (by omega) _ _) (by omega) _ _) 1
      have g10 : w.grownBy ((((((w12.setCell ⟨w.heap.size + 1, 0, none⟩ (.int .i64 z)).setCell ⟨w.heap.size + 1, 1, none⟩ (.int .i64 a)).setCell ⟨w.heap.size + 1, 2, none⟩ (.bool o)).setCell ⟨w.heap.size, 0, none⟩ (.int .i64 N)).setCell ⟨w.heap.size, 1, none⟩ (.bool on)).setCell ⟨w.heap.size, 2, none⟩ (.bool out)).drew none := gr_drewN (gr_new (gr_new (gr_new (gr_new (gr_new (gr_new g0 (by omega) _ _) (by omega) _ _) (by omega) _ _) (by omega) _ _) (by omega) _ _) (by omega) _ _) 1
      go_region_held3 (fun W => (W.cell? ⟨bg, 0, none⟩ = some (.int .i64 N) ∧ W.cell? ⟨bg, 1, none⟩ = some (.bool on) ∧ W.cell? ⟨bg, 2, none⟩ = some (.bool out)) ∧ W.cell? ⟨br, 0, none⟩ = some (.int .i64 z) ∧ W.cell? ⟨br, 1, none⟩ = some (.int .i64 a) ∧ W.cell? ⟨br, 2, none⟩ = some (.bool o)) (first | with_reducible exact B.drew.cells | with_reducible exact K0.cells | with_reducible exact K1.cells | with_reducible exact K01.cells | with_reducible exact K10.cells) (fail)
      all_goals clear K0 K1 K01 K10 B c0 c1 c2 d0 d1 d2 p0 p1 p2 f0 f1 f2 q0 q1 q2 e0 e1 e2
      all_goals go_wp2_with fail
      all_goals first
        | (obtain ⟨⟨r0, r1, r2⟩, s0, s1, s2⟩ := J01.cells; exact bodyPost_ret (v := .tuple #[.agg #[.int .i64 N, .bool on, .bool out], .int .i64 x, .agg #[.int .i64 z, .int .i64 a, .bool o]]) (by simp [results, Try.results9, go_sem, r0, r1, r2, s0, s1, s2]) rfl ⟨N, on, out, x, z, a, o, rfl, hN, hx, hv, ha, g01⟩)
        | (obtain ⟨⟨r0, r1, r2⟩, s0, s1, s2⟩ := J10.cells; exact bodyPost_ret (v := .tuple #[.agg #[.int .i64 N, .bool on, .bool out], .int .i64 x, .agg #[.int .i64 z, .int .i64 a, .bool o]]) (by simp [results, Try.results9, go_sem, r0, r1, r2, s0, s1, s2]) rfl ⟨N, on, out, x, z, a, o, rfl, hN, hx, hv, ha, g10⟩)

end Go.Proofs.Ytdpoecebjjcicaa.fan
